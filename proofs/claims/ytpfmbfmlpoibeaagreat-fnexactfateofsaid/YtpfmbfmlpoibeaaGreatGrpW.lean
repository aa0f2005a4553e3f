/-
  Own text, merged of GrpM, GrpR, GrpW.
-/
import Derived.Test.YtpfmbfmlpoibeaaGreatGrpL
import Derived.Test.YtpfmbfmlpoibeaaGreatStoA
import Derived.Test.YtpfmbfmlpoibeaaGreatCopyA
import Derived.Test.YtpfmbfmlpoibeaaGreatGrpG
import Derived.Test.YtpfmbfmlpoibeaaGreatGrpO
import Derived.Test.YtpfmbfmlpoibeaaGreatRngI
namespace Go.Proofs.YtpfmbfmlpoibeaaGreat
section
open Go.RowKit Go.Maps
-- Own text. StoreFor: the model's l7For, the program's pointTo and what its store tells; what both StoreFor answer.
/-- A range's store that is worked on: its range and its columns, in block b. -/
def RSt (x : World) (B b : Nat) (fr to ep : Int) (N : Nat) (m : Int → Int → Option Int) (nl : Nat) (l : Nat → Int) (nw : Nat) (k : Nat → Int) (g : Nat) (u1 u2 : Value) : Prop :=
  (x.cell? ⟨b, 0, none⟩ = some (.int .i64 fr) ∧ x.cell? ⟨b, 1, none⟩ = some (.int .i64 to) ∧ x.cell? ⟨b, 2, none⟩ = some (.int .i64 ep)) ∧ ColsO x B b 3 N m nl l nw k g u1 u2 ∧ ApartC b g u1 u2
def PtE (w : World) (s0 s1 s2 r0 r1 r2 : Value) (x : World) : Prop := Blk3 x w.heap.size s0 s1 s2 ∧ Blk3 x (w.heap.size + 1) r0 r1 r2
set_option maxRecDepth 100000 in
set_option maxHeartbeats 4000000 in
theorem pointTo_is (S : Sto) (v0 v1 v2 : Value) (fr to ep : Int) (B : Nat) (w : World) (h : St w B S v0 v1 v2) (hz : storeF S = 0) :
    Calls Tryz.prog 61 #[.agg #[v0, v1, v2], .agg #[.int .i64 fr, .int .i64 to, .int .i64 ep]] w fun e w' => ∃ b g u1 u2, e = .returned (.pointer (some ⟨b, 0, none⟩)) ∧ RSt w' w.heap.size b fr to ep S.nc (cellM S S.nc) S.nl S.l S.nw S.k g u1 u2 ∧ Below w.heap.size w w' := by
  obtain ⟨a0, c0, a1, c1, a2, c2, rfl, rfl, rfl⟩ := h.form
  have H : Hid (St w B S (.slice a0 S.nc c0) (.slice a1 S.nl c1) (.slice a2 S.nw c2)) := h
  have Z := storeF_zero hz
  have HZ : Hid ((S.nc ≤ 200 ∧ S.nl ≤ 200 ∧ S.nw ≤ 200) ∧ scan (cellF S.c) S.nc = 0) := ⟨Z.1, Z.2.1⟩
  have HP : Hid (PtE w (.slice a0 S.nc c0) (.slice a1 S.nl c1) (.slice a2 S.nw c2) (.int .i64 fr) (.int .i64 to) (.int .i64 ep) ((w.alloc (.cells #[.slice a0 S.nc c0, .slice a1 S.nl c1, .slice a2 S.nw c2] 37)).alloc (.cells #[.int .i64 fr, .int .i64 to, .int .i64 ep] 89)) ∧ Below w.heap.size w ((w.alloc (.cells #[.slice a0 S.nc c0, .slice a1 S.nl c1, .slice a2 S.nw c2] 37)).alloc (.cells #[.int .i64 fr, .int .i64 to, .int .i64 ep] 89))) := by
    refine ⟨⟨(Blk3.new w _ _ _ _).alloc _, ?_⟩, (below_alloc _ _).alloc (by simp) _⟩
    have := Blk3.new (w.alloc (.cells #[.slice a0 S.nc c0, .slice a1 S.nl c1, .slice a2 S.nw c2] 37)) (.int .i64 fr) (.int .i64 to) (.int .i64 ep) 89
    rwa [World.size_alloc] at this
  clear h hz Z
  go_enter Tryz.func61, Tryz.ntmps61
  go_wp2_with fail
  generalize (w.alloc (.cells #[.slice a0 S.nc c0, .slice a1 S.nl c1, .slice a2 S.nw c2] 37)).alloc (.cells #[.int .i64 fr, .int .i64 to, .int .i64 ep] 89) = w1 at HP ⊢
  refine wp_region_held_drew (S := PtE w (.slice a0 S.nc c0) (.slice a1 S.nl c1) (.slice a2 S.nw c2) (.int .i64 fr) (.int .i64 to) (.int .i64 ep)) (by kernel_rfl) ⟨HP.out.1.1.kept rfl, HP.out.1.2.kept rfl⟩ (fun hS => ?_)
  refine wpAnyH_take (i := 0) (v := ?_) rfl (by kernel_rfl) (by kernel_rfl) (by kernel_rfl) (fun _ _ _ h => h) (Or.inl ⟨by kernel_rfl, ?_⟩) hS ?_
  rotate_left
  · intro wx hx
    obtain ⟨⟨⟨hx0, hx1, hx2⟩, _⟩, ⟨hx3, hx4, hx5⟩, _⟩ := hx
    go_simp
    try with_reducible rfl
  refine wpAnyH_take (i := 1) (v := ?_) rfl (by kernel_rfl) (by kernel_rfl) (by kernel_rfl) (fun _ _ _ h => h) (Or.inl ⟨by kernel_rfl, ?_⟩) hS ?_
  rotate_left
  · intro wx hx
    obtain ⟨⟨⟨hx0, hx1, hx2⟩, _⟩, ⟨hx3, hx4, hx5⟩, _⟩ := hx
    go_simp
    try with_reducible rfl
  refine wpAnyH_ready (rs := [2]) (by kernel_rfl) (by simp) ?_
  refine AllReadyH.cons rfl (fun K hK => ?_) AllReadyH.nil
  go_simp
  go_wp2_with fail
  refine (columnsOf_apart S B _ _ _ _ ((H.out.later HP.out.2).later (below_dr (Below.refl _ _) 1)) HZ.out.1.1 HZ.out.1.2.1 HZ.out.1.2.2 HZ.out.2).mono ?_
  rintro e w2 ⟨b, g, u1, u2, rfl, hC, hap, q2⟩
  have q2' : Below w1.heap.size w1 w2 := ⟨q2.os, q2.tape, q2.output, q2.size, q2.block⟩
  obtain ⟨b1, d1, rfl⟩ := hC.2.2.2.2.1.form
  obtain ⟨b2, d2, rfl⟩ := hC.2.2.2.2.2.form
  have HC : Hid (Cols w2 w1.heap.size b S.nc (cellM S S.nc) S.nl S.l S.nw S.k g (.slice b1 S.nl d1) (.slice b2 S.nw d2) ∧ ApartC b g (.slice b1 S.nl d1) (.slice b2 S.nw d2)) := ⟨hC, hap⟩
  have HB2 : Hid (Below w.heap.size w w2 ∧ w.heap.size ≤ w1.heap.size) := ⟨HP.out.2.trans (q2'.mono HP.out.2.size), HP.out.2.size⟩
  have hS' : PtE w (.slice a0 S.nc c0) (.slice a1 S.nl c1) (.slice a2 S.nw c2) (.int .i64 fr) (.int .i64 to) (.int .i64 ep) w2 := ⟨hS.1.later q2, hS.2.later q2⟩
  obtain ⟨⟨t0, t1, t2⟩, _⟩ := hC.2.2.1
  clear hC hap q2 q2'
  go_wp2_with fail
  refine hK.out _ _ hS' (fun hS => ?_)
  clear hK K hS'
  refine wpAnyH_take (i := 3) (v := ?_) rfl (by kernel_rfl) (by kernel_rfl) (by kernel_rfl) (fun _ _ _ h => h) (Or.inl ⟨by kernel_rfl, ?_⟩) hS ?_
  rotate_left
  · intro wx hx
    obtain ⟨⟨⟨hx0, hx1, hx2⟩, _⟩, ⟨hx3, hx4, hx5⟩, _⟩ := hx
    go_simp
    try with_reducible rfl
  refine wpAnyH_ready (rs := [4]) (by kernel_rfl) (by simp) ?_
  refine AllReadyH.cons rfl (fun K hK => ?_) AllReadyH.nil
  go_simp
  refine hK.out _ _ hS (fun hS => ?_)
  clear hK K
  refine wpAnyH_take (i := 5) (v := ?_) rfl (by kernel_rfl) (by kernel_rfl) (by kernel_rfl) (fun _ _ _ h => h) (Or.inl ⟨by kernel_rfl, ?_⟩) hS ?_
  rotate_left
  · intro wx hx
    obtain ⟨⟨⟨hx0, hx1, hx2⟩, _⟩, ⟨hx3, hx4, hx5⟩, _⟩ := hx
    go_simp
    try with_reducible rfl
  refine wpAnyH_ready (rs := [6]) (by kernel_rfl) (by simp) ?_
  refine AllReadyH.cons rfl (fun K hK => ?_) AllReadyH.nil
  go_simp
  refine hK.out _ _ (show PtE w _ _ _ _ _ _ _ from ⟨hS.1.alloc _, hS.2.alloc _⟩) (fun hS => ?_)
  clear hK K
  refine wpAnyH_take (i := 7) (v := ?_) rfl (by kernel_rfl) (by kernel_rfl) (by kernel_rfl) (fun _ _ _ h => h) (Or.inl ⟨by kernel_rfl, ?_⟩) hS ?_
  rotate_left
  · intro wx hx
    obtain ⟨⟨⟨hx0, hx1, hx2⟩, _⟩, ⟨hx3, hx4, hx5⟩, _⟩ := hx
    go_simp
    try with_reducible rfl
  refine wpAnyH_done (by kernel_rfl) ?_ _
  clear hS t0 t1 t2
  go_simp
  go_wp2
  go_ret
  have hlt := HC.out.1.2.2.1.lt
  have hgl := HC.out.1.2.2.2.1.lt
  have cl : ∀ (j : Nat) (u : Value), (#[.int .i64 fr, .int .i64 to, .int .i64 ep, .map (some g), .slice b1 S.nl d1, .slice b2 S.nw d2] : Array Value)[j]? = some u → (w2.alloc (.cells #[.int .i64 fr, .int .i64 to, .int .i64 ep, .map (some g), .slice b1 S.nl d1, .slice b2 S.nw d2] 105)).cell? ⟨w2.heap.size, j, none⟩ = some u := fun j u hu => (World.cell?_alloc_mark w2 _ _ _ j).trans hu
  have cf : ∀ (j : Nat), (w2.alloc (.cells #[.int .i64 fr, .int .i64 to, .int .i64 ep, .map (some g), .slice b1 S.nl d1, .slice b2 S.nw d2] 105)).frozen? ⟨w2.heap.size, j, none⟩ = false := fun j => by simp
  refine ⟨w2.heap.size, g, _, _, rfl, ⟨⟨cl 0 _ rfl, cl 1 _ rfl, cl 2 _ rfl⟩, ⟨HB2.out.1.size, Nat.le_trans HB2.out.2 HC.out.1.2.1, ⟨⟨cl 3 _ rfl, cl 4 _ rfl, cl 5 _ rfl⟩, cf 3, cf 4, cf 5⟩, HC.out.1.2.2.2.1.later (below_alloc _ _), (HC.out.1.2.2.2.2.1.later (below_alloc _ _)).mono HB2.out.2, (HC.out.1.2.2.2.2.2.later (below_alloc _ _)).mono HB2.out.2⟩, ⟨by omega, fun q e => ⟨by have := (own_in HC.out.1.2.2.2.2.1 q e).2; omega, (HC.out.2.2.1 q e).2⟩, fun q e => ⟨by have := (own_in HC.out.1.2.2.2.2.2 q e).2; omega, (HC.out.2.2.2.1 q e).2⟩, HC.out.2.2.2.2⟩⟩, HB2.out.1.trans ((below_alloc _ _).mono HB2.out.1.size)⟩
theorem mapSelf {S : Sto} (hz : scan (cellF S.c) S.nc = 0) : MapRow (cellM S S.nc) S.nc S.c :=
  ⟨cells_rise hz, fun i hi => by
    have hc := cellF_zero (scan_zero hz i hi)
    have hk := faultOf_zero hc.1
    exact ⟨wf_small hk.1 (by omega), wf_small (by omega) hc.2.2.1⟩, fun i hi => cellM_at hz hi ⟨rfl, rfl⟩, fun _ _ _ _ _ h => cellM_some h⟩
def ForAns (nr : Nat) (F : Nat → Int) (n : Nat) (S : Nat → Sto) (key c : Int) (R : Sto) : Prop :=
  (groupsF nr F n S ≠ 0 ∧ c = groupsF nr F n S ∧ R = emptyS) ∨ (groupsF nr F n S = 0 ∧ faultOf key ≠ 0 ∧ c = faultOf key ∧ R = emptyS) ∨ (groupsF nr F n S = 0 ∧ faultOf key = 0 ∧ ∃ j, AtR nr F key j ∧ c = 0 ∧ R = S j)
/-- What the last region of the program's StoreFor reads. -/
def ForS (w : World) (gr oR j g o nr c0 n c1 : Nat) (fr to ep : Int) (s0 s1 s2 : Value) (x : World) : Prop :=
  (x.cell? ⟨w.heap.size, 0, none⟩ = some (.slice (some ⟨gr, oR, none⟩) nr c0) ∧ x.cell? ⟨w.heap.size, 1, none⟩ = some (.slice (some ⟨g, o, none⟩) n c1)) ∧ (x.cell? ⟨gr, oR + j * 3, none⟩ = some (.int .i64 fr) ∧ x.cell? ⟨gr, oR + j * 3 + 1, none⟩ = some (.int .i64 to) ∧ x.cell? ⟨gr, oR + j * 3 + 2, none⟩ = some (.int .i64 ep)) ∧ x.cell? ⟨g, o + j * 3, none⟩ = some s0 ∧ x.cell? ⟨g, o + j * 3 + 1, none⟩ = some s1 ∧ x.cell? ⟨g, o + j * 3 + 2, none⟩ = some s2
theorem ForS.kept {w x x' : World} {gr oR j g o nr c0 n c1 : Nat} {fr to ep : Int} {s0 s1 s2 : Value} (h : ForS w gr oR j g o nr c0 n c1 fr to ep s0 s1 s2 x) (hgr : gr < w.heap.size) (hg : g < w.heap.size) (hb : ∀ i, i ≤ w.heap.size → x'.heap[i]? = x.heap[i]?) : ForS w gr oR j g o nr c0 n c1 fr to ep s0 s1 s2 x' := by
  have k : ∀ b p, b ≤ w.heap.size → x'.cell? ⟨b, p, none⟩ = x.cell? ⟨b, p, none⟩ := fun b p hb' => World.cell?_of_block (w := x) (a := ⟨b, p, none⟩) (hb b hb')
  obtain ⟨⟨h0, h1⟩, ⟨h2, h3, h4⟩, h5, h6, h7⟩ := h
  exact ⟨⟨(k _ _ (Nat.le_refl _)).trans h0, (k _ _ (Nat.le_refl _)).trans h1⟩, ⟨(k _ _ (by omega)).trans h2, (k _ _ (by omega)).trans h3, (k _ _ (by omega)).trans h4⟩, (k _ _ (by omega)).trans h5, (k _ _ (by omega)).trans h6, (k _ _ (by omega)).trans h7⟩
theorem ForAns.get (nr : Nat) (F : Nat → Int) (n : Nat) (S : Nat → Sto) (key : Int) : ∃ c R, SmallS R ∧ ForAns nr F n S key c R := by
  have small : SmallS emptyS := by unfold SmallS emptyS; decide
  by_cases hz : groupsF nr F n S = 0
  · have Z := groupsF_zero hz
    by_cases hk : faultOf key = 0
    · obtain ⟨j, hj⟩ := Z.1.at (key := key) (by have := (faultOf_zero hk).2; omega)
      have hs := storeF_zero (Z.2.2.1 j (by have := hj.1; have := Z.2.1; omega)).1
      exact ⟨0, S j, by unfold SmallS; have := hs.1; omega, Or.inr (Or.inr ⟨hz, hk, j, hj, rfl, rfl⟩)⟩
    · exact ⟨_, emptyS, small, Or.inr (Or.inl ⟨hz, hk, rfl, rfl⟩)⟩
  · exact ⟨_, emptyS, small, Or.inl ⟨hz, rfl, rfl⟩⟩
end

section
open Go.RowKit
-- Own text, merged of GrpP, GrpQ, GrpR.
section
-- Own text. Rows of ranges and of stores under way: what groupsTold and l7Cut stand on.
/-- The lists of the first k stores, one behind the other. -/
def listU (U : Nat → Nat → Value) : Nat → List Value
  | 0 => []
  | k + 1 => listU U k ++ [U k 0, U k 1, U k 2]
theorem listU_len (U : Nat → Nat → Value) : ∀ k, (listU U k).length = k * 3
  | 0 => rfl
  | k + 1 => by
    show (listU U k ++ [U k 0, U k 1, U k 2]).length = (k + 1) * 3
    rw [List.length_append, listU_len U k]
    simp only [List.length_cons, List.length_nil]
    omega
theorem listU_at (U : Nat → Nat → Value) : ∀ k i, i < k → (listU U k)[i * 3]? = some (U i 0) ∧ (listU U k)[i * 3 + 1]? = some (U i 1) ∧ (listU U k)[i * 3 + 2]? = some (U i 2)
  | 0, i, hi => absurd hi (Nat.not_lt_zero i)
  | k + 1, i, hi => by
    have hl := listU_len U k
    show (listU U k ++ [U k 0, U k 1, U k 2])[i * 3]? = _ ∧ (listU U k ++ [U k 0, U k 1, U k 2])[i * 3 + 1]? = _ ∧ (listU U k ++ [U k 0, U k 1, U k 2])[i * 3 + 2]? = _
    by_cases q : i = k
    · subst q
      rw [List.getElem?_append_right (by omega), List.getElem?_append_right (by omega), List.getElem?_append_right (by omega), hl, Nat.sub_self, show i * 3 + 1 - i * 3 = 1 by omega, show i * 3 + 2 - i * 3 = 2 by omega]
      exact ⟨rfl, rfl, rfl⟩
    · obtain ⟨h0, h1, h2⟩ := listU_at U k i (by omega)
      rw [List.getElem?_append_left (by omega), List.getElem?_append_left (by omega), List.getElem?_append_left (by omega)]
      exact ⟨h0, h1, h2⟩
theorem listU_put (U : Nat → Nat → Value) (u0 u1 u2 : Value) : ∀ k j, j ≤ k → listU (putU U k u0 u1 u2) j = listU U j
  | _, 0, _ => rfl
  | k, j + 1, hj => by
    show listU (putU U k u0 u1 u2) j ++ [putU U k u0 u1 u2 j 0, putU U k u0 u1 u2 j 1, putU U k u0 u1 u2 j 2] = listU U j ++ [U j 0, U j 1, U j 2]
    rw [listU_put U u0 u1 u2 k j (by omega)]
    unfold putU
    rw [if_neg (by omega), if_neg (by omega), if_neg (by omega)]
theorem listU_new (U : Nat → Nat → Value) (u0 u1 u2 : Value) (k : Nat) : listU (putU U k u0 u1 u2) (k + 1) = listU U k ++ [u0, u1, u2] := by
  show listU (putU U k u0 u1 u2) k ++ [putU U k u0 u1 u2 k 0, putU U k u0 u1 u2 k 1, putU U k u0 u1 u2 k 2] = _
  rw [listU_put U u0 u1 u2 k k (Nat.le_refl _)]
  simp [putU]
/-- A row of stores that a call owns. -/
def OwnV (x : World) (B : Nat) (v : Value) (k : Nat) (U : Nat → Nat → Value) : Prop := x.ownsRow B 37 3 v k (listU U k)
theorem OwnV.block {x : World} {B : Nat} {v : Value} {k : Nat} {U : Nat → Nat → Value} (h : OwnV x B v k U) : ∀ q, v.ownBlock = some q → B ≤ q ∧ q < x.heap.size := World.ownsRow.lt h
theorem OwnV.keptB {x x' : World} {B : Nat} {v : Value} {k : Nat} {U : Nat → Nat → Value} (h : OwnV x B v k U) (hb : ∀ q, v.ownBlock = some q → x'.heap[q]? = x.heap[q]?) : OwnV x' B v k U := by
  obtain ⟨h1, h2⟩ := h
  refine ⟨h1, ?_⟩
  rcases h2 with q | ⟨g, cap, cur, rfl, q1, q2, q3⟩
  · exact Or.inl q
  · exact Or.inr ⟨g, cap, cur, rfl, q1, (hb g rfl).trans q2, q3⟩
theorem OwnV.later {x x' : World} {B : Nat} {v : Value} {k : Nat} {U : Nat → Nat → Value} (h : OwnV x B v k U) (hb : Below x.heap.size x x') : OwnV x' B v k U := h.keptB (fun q hq => hb.block q (h.block q hq).2)
theorem OwnV.far {x : World} {B : Nat} {v : Value} {k : Nat} {U : Nat → Nat → Value} (h : OwnV x B v k U) {a : Addr} (ha : a.block < B) (u : Value) : OwnV (x.setCell a u) B v k U := h.keptB (fun q hq => Below.heap_setCell x a u q (by have := (h.block q hq).1; omega))
theorem OwnV.fill {x : World} {B g cp : Nat} {k : Nat} {U : Nat → Nat → Value} (h : OwnV x B (.slice (some ⟨g, 0, none⟩) k cp) k U) : FillS x g k k U := by
  have hc : ∀ p, p < k * 3 → x.cell? ⟨g, p, none⟩ = (listU U k)[p]? := fun p hp => World.ownsRow.cellAt h p hp
  refine ⟨(h.block g rfl).2, fun p hp => ⟨⟨(listU U k)[p]'(by rw [listU_len]; exact hp), ?_⟩, World.ownsRow.frozenAt h p⟩, fun i hi => ?_⟩
  · rw [hc p hp, List.getElem?_eq_getElem]
  · obtain ⟨h0, h1, h2⟩ := listU_at U k i hi
    exact ⟨(hc _ (by omega)).trans h0, (hc _ (by omega)).trans h1, (hc _ (by omega)).trans h2⟩
/-- Groups under way: kr ranges and k stores are laid. -/
structure GT (w x : World) (kr k : Nat) (F : Nat → Int) (S : Nat → Sto) (U : Nat → Nat → Value) (z : Nat → Nat) (vr vs : Value) : Prop where
  below : Below w.heap.size w x
  res : Blk3 x w.heap.size (.int .i64 0) (.slice none 0 0) (.slice none 0 0)
  blk : Blk2 x (w.heap.size + 1) vr vs
  lo : w.heap.size + 2 ≤ x.heap.size
  rr : OwnM x (w.heap.size + 2) 89 3 vr kr (nums F (kr * 3))
  rs : OwnV x (w.heap.size + 2) vs k U
  fine : Fine x z k S U
  zl : ∀ i, i ≤ k → w.heap.size + 2 ≤ z i
  zh : z k ≤ x.heap.size
  sr : ∀ q, vr.ownBlock = some q → Spare k S U q
  ss : ∀ q, vs.ownBlock = some q → Spare k S U q
  ap : ApaO vr vs
theorem GT.later {w x x' : World} {kr k : Nat} {F : Nat → Int} {S : Nat → Sto} {U : Nat → Nat → Value} {z : Nat → Nat} {vr vs : Value} (h : GT w x kr k F S U z vr vs) (hb : Below x.heap.size x x') : GT w x' kr k F S U z vr vs :=
  ⟨h.below.trans (hb.mono h.below.size), h.res.later hb, h.blk.later hb, Nat.le_trans h.lo hb.size, h.rr.later hb, h.rs.later hb, h.fine.later hb, h.zl, Nat.le_trans h.zh hb.size, h.sr, h.ss, h.ap⟩
/-- What is turned is a list of its own: the stores' lists stand. -/
theorem Fine.past {x x' : World} {z : Nat → Nat} {k : Nat} {S : Nat → Sto} {U : Nat → Nat → Value} {v : Value} (h : Fine x z k S U) (hg : x.grownBy x' v.ownBlock) (hs : ∀ q, v.ownBlock = some q → Spare k S U q) : Fine x' z k S U := fun i hi => by
  obtain ⟨⟨⟨s0, s1, s2⟩, ⟨f0, f1, f2⟩, h3⟩, h4⟩ := h i hi
  have x0 : 0 < (S i).nc → ∀ k, (U i 0).ownBlock = some k → some k ≠ v.ownBlock := fun hp k hk e => (hs k e.symm i hi).1 hp k hk rfl
  have x1 : 0 < (S i).nl → ∀ k, (U i 1).ownBlock = some k → some k ≠ v.ownBlock := fun hp k hk e => (hs k e.symm i hi).2.1 hp k hk rfl
  have x2 : 0 < (S i).nw → ∀ k, (U i 2).ownBlock = some k → some k ≠ v.ownBlock := fun hp k hk e => (hs k e.symm i hi).2.2 hp k hk rfl
  exact ⟨⟨⟨s0.turned hg x0, s1.turned hg x1, s2.turned hg x2⟩, ⟨f0.turned s0 hg x0, f1.turned s1 hg x1, f2.turned s2 hg x2⟩, h3⟩, h4⟩
/-- A block behind all of them holds none of their lists. -/
theorem Fine.spare {x : World} {z : Nat → Nat} {k : Nat} {S : Nat → Sto} {U : Nat → Nat → Value} (h : Fine x z k S U) {q : Nat} (hq : z k ≤ q) : Spare k S U q := fun i hi => by
  obtain ⟨_, h4, _⟩ := h i hi
  have := h.up k (Nat.le_refl _) (i + 1) (by omega)
  exact h4.mono (fun p hp => by omega)
theorem blk2_past {x x' : World} {b : Nat} {row : Option Nat} {a0 a1 : Value} (h : Blk2 x b a0 a1) (hg : x.grownBy x' row) (hb : row ≠ some b) : Blk2 x' b a0 a1 := h.kept (hg.block b h.lt (fun q => hb q.symm))
theorem blk3_past {x x' : World} {b : Nat} {row : Option Nat} {a0 a1 a2 : Value} (h : Blk3 x b a0 a1 a2) (hg : x.grownBy x' row) (hb : row ≠ some b) : Blk3 x' b a0 a1 a2 := h.kept (hg.block b h.lt (fun q => hb q.symm))
theorem GT.putR {w x y : World} {kr k : Nat} {F : Nat → Int} {S : Nat → Sto} {U : Nat → Nat → Value} {z : Nat → Nat} {vr vs u : Value} (h : GT w x kr k F S U z vr vs) (ho : OwnM y (w.heap.size + 2) 89 3 u (kr + 1) (nums F ((kr + 1) * 3))) (hg : x.grownBy y vr.ownBlock) (hat : u.ownBlock = vr.ownBlock ∨ u.ownBlock = some x.heap.size) :
    GT w (y.setCell ⟨w.heap.size + 1, 0, none⟩ u) (kr + 1) k F S U z u vs := by
  have nb : ∀ b, b < w.heap.size + 2 → vr.ownBlock ≠ some b := fun b hb e => by have := (h.rr.block b e).1; omega
  have hlt : (⟨w.heap.size + 1, 0, none⟩ : Addr).block < w.heap.size + 2 := Nat.lt_succ_self _
  refine ⟨(below_past h.below h.rr (by omega) hg).setCell (Nat.le_succ _) _, (blk3_past h.res hg (nb _ (by omega))).setFar (by simp) _, (blk2_past h.blk hg (nb _ (by omega))).set0 _, by have := h.lo; have := hg.size; simp [World.setCell]; omega, ho.far hlt _, (h.rs.keptB (fun q hq => hg.block q (h.rs.block q hq).2 (fun e => h.ap q e.symm hq))).far hlt _, (h.fine.past hg h.sr).far (fun i hi => by have := h.zl i (by omega); show w.heap.size + 1 < z i; omega) _, h.zl, by have := h.zh; have := hg.size; simp [World.setCell]; omega, fun q hq => ?_, h.ss, fun q hq e => ?_⟩
  · rcases hat with e | e
    · exact h.sr q (e ▸ hq)
    · rw [e] at hq
      simp at hq
      exact h.fine.spare (by have := h.zh; omega)
  · rcases hat with e' | e'
    · exact h.ap q (e' ▸ hq) e
    · rw [e'] at hq
      simp at hq
      have := (h.rs.block q e).2
      omega
theorem GT.putS {w x y : World} {kr k : Nat} {F : Nat → Int} {S : Nat → Sto} {U : Nat → Nat → Value} {z : Nat → Nat} {vr vs u u0 u1 u2 : Value} {zz zt : Nat} (h : GT w x kr k F S U z vr vs) (hk : St x zz (S k) u0 u1 u2 ∧ FreeS x (S k) u0 u1 u2 ∧ ApartD (S k) u0 u1 u2) (hok : OwnIn (S k) u0 u1 u2 (fun q => zz ≤ q ∧ q < zt)) (hz : z k ≤ zz ∧ zz ≤ zt ∧ zt ≤ x.heap.size) (hr0 : ∀ q, vr.ownBlock = some q → q < zz) (hs0 : ∀ q, vs.ownBlock = some q → q < zz)
    (ho : OwnV y (w.heap.size + 2) u (k + 1) (putU U k u0 u1 u2)) (hg : x.grownBy y vs.ownBlock) (hat : u.ownBlock = vs.ownBlock ∨ u.ownBlock = some x.heap.size) :
    GT w (y.setCell ⟨w.heap.size + 1, 1, none⟩ u) kr (k + 1) F S (putU U k u0 u1 u2) (fun i => if i = k + 1 then zt else z i) vr u := by
  have nb : ∀ b, b < w.heap.size + 2 → vs.ownBlock ≠ some b := fun b hb e => by have := (h.rs.block b e).1; omega
  have hlt : (⟨w.heap.size + 1, 1, none⟩ : Addr).block < w.heap.size + 2 := Nat.lt_succ_self _
  have f1 : Fine x (fun i => if i = k + 1 then zt else z i) (k + 1) S (putU U k u0 u1 u2) := h.fine.put rfl ⟨hk.1.mono hz.1, hk.2⟩ (hok.mono (fun q hq => ⟨Nat.le_trans hz.1 hq.1, hq.2⟩)) (by omega)
  have spOld : ∀ q, q < zz → Spare k S U q → Spare (k + 1) S (putU U k u0 u1 u2) q := fun q hq hs i hi => by
    by_cases e : i = k
    · subst e
      simp only [putU, if_true]
      exact hok.mono (fun p hp => by omega)
    · have := hs i (by omega)
      simp only [putU, if_neg e]
      exact this
  have zl' : ∀ i, i ≤ k + 1 → w.heap.size + 2 ≤ (if i = k + 1 then zt else z i) := fun i hi => by
    by_cases e : i = k + 1
    · rw [if_pos e]; have := h.zl k (Nat.le_refl _); omega
    · rw [if_neg e]; exact h.zl i (by omega)
  have bel : Below w.heap.size w y := ⟨hg.os.trans h.below.os, hg.tape.trans h.below.tape, hg.output.trans h.below.output, Nat.le_trans h.below.size hg.size, fun i hi => (hg.block i (Nat.lt_of_lt_of_le hi h.below.size) (fun e => nb i (by omega) e.symm)).trans (h.below.block i hi)⟩
  refine ⟨bel.setCell (Nat.le_succ _) _, (blk3_past h.res hg (nb _ (by omega))).setFar (by simp) _, (blk2_past h.blk hg (nb _ (by omega))).set1 _, by have := h.lo; have := hg.size; simp [World.setCell]; omega, (h.rr.keptB (fun q hq => hg.block q (h.rr.block q hq).2 (fun e => h.ap q hq e.symm))).far hlt _, ho.far hlt _, (f1.past hg (fun q hq => spOld q (hs0 q hq) (h.ss q hq))).far (fun i hi => by have := zl' i (by omega); show w.heap.size + 1 < _; omega) _, zl', ?_, fun q hq => spOld q (hr0 q hq) (h.sr q hq), fun q hq => ?_, fun q hq e => ?_⟩
  · show (if k + 1 = k + 1 then zt else z (k + 1)) ≤ _
    rw [if_pos rfl]
    have := hg.size
    simp [World.setCell]
    omega
  · rcases hat with e | e
    · exact spOld q (hs0 q (e ▸ hq)) (h.ss q (e ▸ hq))
    · rw [e] at hq
      simp at hq
      refine f1.spare ?_
      show (if k + 1 = k + 1 then zt else z (k + 1)) ≤ q
      rw [if_pos rfl]
      omega
  · rcases hat with e' | e'
    · exact h.ap q hq (e' ▸ e)
    · rw [e'] at e
      simp at e
      have := hr0 q hq
      omega
theorem GT.fineR {w x : World} {k : Nat} {F : Nat → Int} {S : Nat → Sto} {U : Nat → Nat → Value} {z : Nat → Nat} {ra : Option Addr} {rc : Nat} {sa : Option Addr} {sc : Nat} (h : GT w x k k F S U z (.slice ra k rc) (.slice sa k sc)) : FineR x (w.heap.size + 2) x.heap.size k F k S ra rc sa U z := by
  have hl : (nums F (k * 3)).length = k * 3 := nums_length _ _
  have o := (h.rr.own hl).row
  refine ⟨⟨o.1.congr (fun p hp => ?_), o.2⟩, ⟨fun hk => ?_, h.fine⟩, ⟨fun i hi => h.zl i (by omega), fun i hi => Nat.le_trans (h.fine.up k (Nat.le_refl _) (i + 1) (by omega)) h.zh, Nat.le_refl _⟩, fun hk q hq => ⟨h.sr q hq, fun _ e => ?_, (h.rr.block q hq).2⟩⟩
  · simp [nums, hp]
  · rcases h.rs.2 with ⟨q, e⟩ | ⟨g, cap, cur, q, hb, hc, _⟩
    · omega
    · simp only [Value.slice.injEq] at q
      obtain ⟨rfl, _, rfl⟩ := q
      exact ⟨g, rfl, hb, OwnV.fill h.rs, h.ss g rfl⟩
  · subst e
    exact h.ap q hq rfl
end

section
open Go.RowKit Go.Maps
-- Own text. What the program's groupsTold answers: the ranges and the stores that are worked on, in new memory.
theorem ColsO.kept0 {x x' : World} {B b oo N : Nat} {m : Int → Int → Option Int} {nl : Nat} {l : Nat → Int} {nw : Nat} {k : Nat → Int} {g : Nat} {u1 u2 : Value} (h : ColsO x B b oo N m nl l nw k g u1 u2) (hb : Below x.heap.size x x') : ColsO x' B b oo N m nl l nw k g u1 u2 := h.later hb
theorem RSt.later {x x' : World} {B b : Nat} {fr to ep : Int} {N : Nat} {m : Int → Int → Option Int} {nl : Nat} {l : Nat → Int} {nw : Nat} {k : Nat → Int} {g : Nat} {u1 u2 : Value} (h : RSt x B b fr to ep N m nl l nw k g u1 u2) (hb : Below x.heap.size x x') : RSt x' B b fr to ep N m nl l nw k g u1 u2 := by
  have hl := h.2.1.2.2.1.lt
  exact ⟨⟨(hb.cell (p := ⟨b, 0, none⟩) hl).trans h.1.1, (hb.cell (p := ⟨b, 1, none⟩) hl).trans h.1.2.1, (hb.cell (p := ⟨b, 2, none⟩) hl).trans h.1.2.2⟩, h.2.1.later hb, h.2.2⟩
/-- The stores that are worked on: number i lies in block P i. -/
def ToldG (w : World) (B n : Nat) (F : Nat → Int) (S : Nat → Sto) (P : Nat → Nat) : Prop := ∀ i, i < n → ∃ N m g u1 u2, (N ≤ 400 ∧ (S i).nl ≤ 200 ∧ (S i).nw ≤ 200) ∧ MapRow m (S i).nc (S i).c ∧ RSt w B (P i) (F (i * 3)) (F (i * 3 + 1)) (F (i * 3 + 2)) N m (S i).nl (S i).l (S i).nw (S i).k g u1 u2
def PtrRow (w : World) (n : Nat) (pa : Option Addr) (P : Nat → Nat) : Prop := 0 < n → ∃ gp op, pa = some ⟨gp, op, none⟩ ∧ gp < w.heap.size ∧ ∀ i, i < n → w.cell? ⟨gp, op + i, none⟩ = some (.pointer (some ⟨P i, 0, none⟩))
theorem nums_three (F : Nat → Int) (k : Nat) : nums F ((k + 1) * 3) = nums F (k * 3) ++ [F (k * 3), F (k * 3 + 1), F (k * 3 + 2)] := by
  unfold nums
  rw [show (k + 1) * 3 = k * 3 + 1 + 1 + 1 by omega, List.range_succ, List.range_succ, List.range_succ]
  simp
theorem within_set (x : World) (b j : Nat) (u : Value) : Within b (b + 1) x (x.setCell ⟨b, j, none⟩ u) := ⟨rfl, rfl, rfl, by simp [World.setCell], fun q _ ho => Below.heap_setCell x ⟨b, j, none⟩ u q (by show q ≠ b; omega)⟩
theorem FineR.mono {w : World} {lo lo' tp nr : Nat} {F : Nat → Int} {n : Nat} {S : Nat → Sto} {ra : Option Addr} {rc : Nat} {sa : Option Addr} {U : Nat → Nat → Value} {z : Nat → Nat} (h : FineR w lo tp nr F n S ra rc sa U z) (hl : lo' ≤ lo) : FineR w lo' tp nr F n S ra rc sa U z :=
  ⟨⟨h.1.1.mono hl, h.1.2⟩, ⟨fun hn => by obtain ⟨g, x1, x2, x3⟩ := h.2.1.1 hn; exact ⟨g, x1, by omega, x3⟩, h.2.1.2⟩, ⟨fun i hi => Nat.le_trans hl (h.2.2.1.1 i hi), h.2.2.1.2⟩, h.2.2.2⟩
theorem FineR.up {w : World} {lo lo' tp nr : Nat} {F : Nat → Int} {n : Nat} {S : Nat → Sto} {ra : Option Addr} {rc : Nat} {sa : Option Addr} {U : Nat → Nat → Value} {z : Nat → Nat} (h : FineR w lo tp nr F n S ra rc sa U z) (hl : lo' ≤ lo) : FineR w lo' w.heap.size nr F n S ra rc sa U z := by
  have h' := h.mono hl
  refine ⟨h'.1, h'.2.1, ⟨h'.2.2.1.1, fun i hi => Nat.le_trans (h'.2.2.1.2.1 i hi) h'.2.2.1.2.2, Nat.le_refl _⟩, fun hn q e => ?_⟩
  obtain ⟨x1, x2, x3⟩ := h'.2.2.2 hn q e
  exact ⟨x1, x2, Nat.lt_of_lt_of_le x3 h'.2.2.1.2.2⟩
def RgS (pk : Nat) (fr to ep : Int) (x : World) : Prop := x.cell? ⟨pk, 0, none⟩ = some (.int .i64 fr) ∧ x.cell? ⟨pk, 1, none⟩ = some (.int .i64 to) ∧ x.cell? ⟨pk, 2, none⟩ = some (.int .i64 ep)
theorem RgS.below {w x : World} {pk : Nat} {fr to ep : Int} (h : RgS pk fr to ep w) (hb : Below w.heap.size w x) : RgS pk fr to ep x :=
  ⟨(hb.cell (p := ⟨pk, 0, none⟩) (World.block_lt_of_cell? w _ h.1)).trans h.1, (hb.cell (p := ⟨pk, 1, none⟩) (World.block_lt_of_cell? w _ h.2.1)).trans h.2.1, (hb.cell (p := ⟨pk, 2, none⟩) (World.block_lt_of_cell? w _ h.2.2)).trans h.2.2⟩
set_option maxRecDepth 100000 in
set_option maxHeartbeats 16000000 in
theorem groupsTold_is (n : Nat) (pa : Option Addr) (pc : Nat) (F : Nat → Int) (S : Nat → Sto) (P : Nat → Nat) (B : Nat) (w : World) (hp : PtrRow w n pa P) (ht : ToldG w B n F S P) (hn : n ≤ 12) :
    Calls Tryz.prog 23 #[.slice pa n pc] w (ResGr w 0 n F n S) := by
  have HP : Hid (PtrRow w n pa P) := hp
  have HT : Hid (ToldG w B n F S P) := ht
  clear hp ht
  go_enter Tryz.func23, Tryz.ntmps23
  go_wp2
  go_loopw [8] (fun i wr => ∃ (k : Nat) (U : Nat → Nat → Value) (z : Nat → Nat) (ra : Option Addr) (rc : Nat) (sa : Option Addr) (sc : Nat), k ≤ n ∧ i = .int .i64 k ∧ Hid (GT w wr k k F S U z (.slice ra k rc) (.slice sa k sc))) (fun i _ => n - (intOf i).toNat)
  case atStart =>
    refine ⟨0, fun _ _ => .bool true, fun _ => w.heap.size + 2, none, 0, none, 0, Nat.zero_le _, rfl, ⟨(below_alloc _ _).alloc (by simp) _, (Blk3.new w _ _ _ _).alloc _, ?_, by simp, OwnM.nil _ _ _ _, ⟨rfl, Or.inl ⟨rfl, rfl⟩⟩, fun i hi => absurd hi (Nat.not_lt_zero i), fun _ _ => Nat.le_refl _, by simp, (fun q e => by cases e), (fun q e => by cases e), (fun q e => by cases e)⟩⟩
    have := Blk2.new (w.alloc (.cells #[.int .i64 0, .slice none 0 0, .slice none 0 0] 31)) (.slice none 0 0) (.slice none 0 0) 27
    rwa [World.size_alloc] at this
  case round =>
    obtain ⟨k, U, z, ra, rc, sa, sc, hk, rfl, TT⟩ := hrel
    by_cases hlt : k < n
    · obtain ⟨gp, op, rfl, hgp, hpc⟩ := HP.out (by omega)
      have pk := (TT.out.below.cell (p := ⟨gp, op + k, none⟩) hgp).trans (hpc k hlt)
      obtain ⟨N, m, gm, u1, u2, hN, hM, hR⟩ := HT.out k hlt
      obtain ⟨fr, hfr⟩ : ∃ x, F (k * 3) = x := ⟨_, rfl⟩
      obtain ⟨to, hto⟩ : ∃ x, F (k * 3 + 1) = x := ⟨_, rfl⟩
      obtain ⟨ep, hep⟩ : ∃ x, F (k * 3 + 2) = x := ⟨_, rfl⟩
      rw [hfr, hto, hep] at hR
      have HF : Hid (F (k * 3) = fr ∧ F (k * 3 + 1) = to ∧ F (k * 3 + 2) = ep) := ⟨hfr, hto, hep⟩
      have RG : Hid (RgS (P k) fr to ep w) := hR.1
      have RS : Hid ((N ≤ 400 ∧ (S k).nl ≤ 200 ∧ (S k).nw ≤ 200) ∧ MapRow m (S k).nc (S k).c ∧ RSt w B (P k) fr to ep N m (S k).nl (S k).l (S k).nw (S k).k gm u1 u2) := ⟨hN, hM, hR⟩
      obtain ⟨i0, hi, hz0, hz1, hz2⟩ := info_parts info_Range
      obtain ⟨j0, gi, gz0, gz1, gz2⟩ := info_parts info_Store
      have F0 : wr.drew.cell? ⟨w.heap.size + 1, 0, none⟩ = some (.slice ra k rc) := TT.out.blk.1.1
      have F0d : wr.cell? ⟨w.heap.size + 1, 0, none⟩ = some (.slice ra k rc) := TT.out.blk.1.1
      have F1 : (wr.alloc (.cells #[.int .i64 fr, .int .i64 to, .int .i64 ep] 89)).drew.cell? ⟨w.heap.size + 1, 0, none⟩ = some (.slice ra k rc) := (TT.out.later (below_alloc _ _)).blk.1.1
      have F1d : (wr.alloc (.cells #[.int .i64 fr, .int .i64 to, .int .i64 ep] 89)).cell? ⟨w.heap.size + 1, 0, none⟩ = some (.slice ra k rc) := (TT.out.later (below_alloc _ _)).blk.1.1
      have TA : Hid (GT w (wr.alloc (.cells #[.int .i64 fr, .int .i64 to, .int .i64 ep] 89)).drew k k F S U z (.slice ra k rc) (.slice sa k sc)) := TT.out.later (below_alloc _ _).drew
      clear hN hM hR hfr hto hep hpc
      go_upto_region 5 with fail
      clear pk
      refine wp_region_held_drew (S := RgS (P k) fr to ep) (by kernel_rfl) (RG.out.below TT.out.below.drew) (fun hS => ?_)
      refine wpAnyH_take (i := 0) (v := ?_) rfl (by kernel_rfl) (by kernel_rfl) (by kernel_rfl) (fun _ _ _ h => h) (Or.inl ⟨by kernel_rfl, ?_⟩) hS ?_
      rotate_left
      · intro wx hx
        obtain ⟨hx0, hx1, hx2⟩ := hx
        go_simp
        try with_reducible rfl
      refine wpAnyH_take (i := 2) (v := ?_) rfl (by kernel_rfl) (by kernel_rfl) (by kernel_rfl) (fun _ _ _ h => h) (Or.inl ⟨by kernel_rfl, ?_⟩) hS ?_
      rotate_left
      · intro wx hx
        obtain ⟨hx0, hx1, hx2⟩ := hx
        go_simp
        try with_reducible rfl
      refine wpAnyH_take (i := 3) (v := ?_) rfl (by kernel_rfl) (by kernel_rfl) (by kernel_rfl) (fun _ _ _ h => h) (Or.inl ⟨by kernel_rfl, ?_⟩) hS ?_
      rotate_left
      · intro wx hx
        obtain ⟨hx0, hx1, hx2⟩ := hx
        go_simp
        try with_reducible rfl
      refine wpAnyH_take (i := 4) (v := ?_) rfl (by kernel_rfl) (by kernel_rfl) (by kernel_rfl) (fun _ _ _ h => h) (Or.inl ⟨by kernel_rfl, ?_⟩) hS ?_
      rotate_left
      · intro wx hx
        obtain ⟨hx0, hx1, hx2⟩ := hx
        go_simp
        try with_reducible rfl
      refine wpAnyH_take (i := 5) (v := ?_) rfl (by kernel_rfl) (by kernel_rfl) (by kernel_rfl) (fun _ _ _ h => h) (Or.inl ⟨by kernel_rfl, ?_⟩) hS ?_
      rotate_left
      · intro wx hx
        obtain ⟨hx0, hx1, hx2⟩ := hx
        go_simp
        try with_reducible rfl
      refine wpAnyH_ready (rs := [1, 6]) (by kernel_rfl) (by simp) ?_
      refine AllReadyH.cons rfl (fun K hK => ?_) (AllReadyH.cons rfl (fun K hK => ?_) AllReadyH.nil)
      · go_simp
        refine hK.out _ _ hS (fun hS => ?_)
        clear hK K
        refine wpAnyH_ready (rs := [6]) (by kernel_rfl) (by simp) ?_
        refine AllReadyH.cons rfl (fun K hK => ?_) AllReadyH.nil
        go_simp
        refine hK.out _ _ (RG.out.below TA.out.below) (fun hS => ?_)
        clear hK K
        refine wpAnyH_ready (rs := [7]) (by kernel_rfl) (by simp) ?_
        refine AllReadyH.cons rfl (fun K hK => ?_) AllReadyH.nil
        refine step_append_lies _ (by rfl) _ _ 24 (by rfl) (w.heap.size + 2) 89 i0 (.agg #[.int .i64 0, .int .i64 0, .int .i64 0]) 3 24 Tryz.underlying24 hi hz0 hz1 hz2 rfl (by omega) (.slice ra k rc) k _ (by rfl) TA.out.rr ⟨wr.heap.size, 0, none⟩ 1 1 [.int .i64 fr, .int .i64 to, .int .i64 ep] (by rfl) (by rfl) (World.news_of_block (cs := #[.int .i64 fr, .int .i64 to, .int .i64 ep]) (t := 89) (fr := (0, 0)) (heap_alloc_new wr _)) (by simp [Value.oneCell']) (by omega) (by unfold maxLen; omega) (by omega) TA.out.lo (wr.heap.size + 1) (by simp) ?_
        intro gg cap y OY GY AY LY
        have OR : OwnM y (w.heap.size + 2) 89 3 (.slice (some ⟨gg, 0, none⟩) (k + 1) cap) (k + 1) (nums F ((k + 1) * 3)) := by
          unfold OwnM
          rw [nums_three, HF.out.1, HF.out.2.1, HF.out.2.2, List.map_append]
          exact OY
        have T1 := TA.out.putR OR GY (by rcases AY with e | e; exact Or.inl e.symm; exact Or.inr (by rw [e]; simp [Value.ownBlock]))
        have hS' := RG.out.below (below_past TA.out.below TA.out.rr (by omega) GY)
        refine hK.out _ _ hS' (fun hS => ?_)
        clear hK K hS'
        refine wpAnyH_take (i := 8) (v := ?_) rfl (by kernel_rfl) (by kernel_rfl) (by kernel_rfl) (fun _ _ _ h => h) (Or.inl ⟨by kernel_rfl, ?_⟩) hS ?_
        rotate_left
        · intro wx hx
          obtain ⟨hx0, hx1, hx2⟩ := hx
          go_simp
          try with_reducible rfl
        obtain ⟨⟨t0, t1⟩, ft0, ft1⟩ := blk2_past TA.out.blk GY (fun e => by have := (TA.out.rr.block _ e).1; omega)
        have T1' : Hid (GT w (y.setCell ⟨w.heap.size + 1, 0, none⟩ (.slice (some ⟨gg, 0, none⟩) (k + 1) cap)) (k + 1) k F S U z (.slice (some ⟨gg, 0, none⟩) (k + 1) cap) (.slice sa k sc)) := T1
        clear T1
        refine wpAnyH_ready (rs := [9]) (by kernel_rfl) (by simp) ?_
        refine AllReadyH.cons rfl (fun K hK => ?_) AllReadyH.nil
        go_simp
        refine hK.out _ _ (RG.out.below T1'.out.below) (fun hS => ?_)
        clear hK K
        refine wpAnyH_done (by kernel_rfl) ?_ _
        clear hS
        go_simp
        generalize y.setCell ⟨w.heap.size + 1, 0, none⟩ (.slice (some ⟨gg, 0, none⟩) (k + 1) cap) = x1 at T1' ⊢
        clear t0 t1 ft0 ft1 OY GY AY LY OR TA TT F0 F1 F1d F0d
        go_wp2_with fail
        have G0 : x1.drew.cell? ⟨w.heap.size + 1, 1, none⟩ = some (.slice sa k sc) := T1'.out.blk.1.2
        refine wp_region_held_drew (S := fun _ => True) (by kernel_rfl) trivial (fun hS => ?_)
        refine wpAnyH_take (i := 0) (v := ?_) rfl (by kernel_rfl) (by kernel_rfl) (by kernel_rfl) (fun _ _ _ h => h) (Or.inl ⟨by kernel_rfl, ?_⟩) hS ?_
        rotate_left
        · intro wx hx
          go_simp
          try with_reducible rfl
        refine wpAnyH_take (i := 2) (v := ?_) rfl (by kernel_rfl) (by kernel_rfl) (by kernel_rfl) (fun _ _ _ h => h) (Or.inl ⟨by kernel_rfl, ?_⟩) hS ?_
        rotate_left
        · intro wx hx
          go_simp
          try with_reducible rfl
        refine wpAnyH_take (i := 3) (v := ?_) rfl (by kernel_rfl) (by kernel_rfl) (by kernel_rfl) (fun _ _ _ h => h) (Or.inl ⟨by kernel_rfl, ?_⟩) hS ?_
        rotate_left
        · intro wx hx
          go_simp
          try with_reducible rfl
        refine wpAnyH_take (i := 4) (v := ?_) rfl (by kernel_rfl) (by kernel_rfl) (by kernel_rfl) (fun _ _ _ h => h) (Or.inl ⟨by kernel_rfl, ?_⟩) hS ?_
        rotate_left
        · intro wx hx
          go_simp
          try with_reducible rfl
        refine wpAnyH_ready (rs := [1, 5]) (by kernel_rfl) (by simp) ?_
        refine AllReadyH.cons rfl (fun K hK => ?_) (AllReadyH.cons rfl (fun K hK => ?_) AllReadyH.nil)
        · go_simp
          refine hK.out _ _ trivial (fun hS => ?_)
          clear hK K
          refine wpAnyH_ready (rs := [5]) (by kernel_rfl) (by simp) ?_
          refine AllReadyH.cons rfl (fun K hK => ?_) AllReadyH.nil
          go_simp
          go_wp2_with fail
          refine (store_isO _ (P k) 3 _ _ _ _ _ _ gm u1 u2 _ (((RS.out.2.2.later T1'.out.below).2.1).later (below_dr (Below.refl _ _) 1)) RS.out.1.2.1 RS.out.1.2.2 RS.out.1.1 (S k).nc (S k).c RS.out.2.1).mono ?_
          rintro e x2 ⟨d0, e0, d1, e1, d2, e2, rfl, ⟨s3, f3, a3⟩, q2⟩
          have q2' : Below x1.heap.size x1 x2 := ⟨q2.os, q2.tape, q2.output, q2.size, q2.block⟩
          have ZX : Hid (x1.heap.size ≤ x2.heap.size) := q2'.size
          have TB : Hid (GT w x2 (k + 1) k F S U z (.slice (some ⟨gg, 0, none⟩) (k + 1) cap) (.slice sa k sc)) := T1'.out.later q2'
          have SC : Hid ((St (x2.alloc (.cells #[.slice d0 (S k).nc e0, .slice d1 (S k).nl e1, .slice d2 (S k).nw e2] 37)) x1.heap.size (S k) (.slice d0 (S k).nc e0) (.slice d1 (S k).nl e1) (.slice d2 (S k).nw e2) ∧ FreeS (x2.alloc (.cells #[.slice d0 (S k).nc e0, .slice d1 (S k).nl e1, .slice d2 (S k).nw e2] 37)) (S k) (.slice d0 (S k).nc e0) (.slice d1 (S k).nl e1) (.slice d2 (S k).nw e2) ∧ ApartD (S k) (.slice d0 (S k).nc e0) (.slice d1 (S k).nl e1) (.slice d2 (S k).nw e2)) ∧ OwnIn (S k) (.slice d0 (S k).nc e0) (.slice d1 (S k).nl e1) (.slice d2 (S k).nw e2) (fun q => x1.heap.size ≤ q ∧ q < x2.heap.size)) := ⟨⟨s3.alloc _, f3.later s3 (below_alloc _ _), a3⟩, s3.ownIn⟩
          have TC : Hid (GT w (x2.alloc (.cells #[.slice d0 (S k).nc e0, .slice d1 (S k).nl e1, .slice d2 (S k).nw e2] 37)) (k + 1) k F S U z (.slice (some ⟨gg, 0, none⟩) (k + 1) cap) (.slice sa k sc)) := TB.out.later (below_alloc _ _)
          have G2 : x2.cell? ⟨w.heap.size + 1, 1, none⟩ = some (.slice sa k sc) := TB.out.blk.1.2
          have G3 : (x2.alloc (.cells #[.slice d0 (S k).nc e0, .slice d1 (S k).nl e1, .slice d2 (S k).nw e2] 37)).cell? ⟨w.heap.size + 1, 1, none⟩ = some (.slice sa k sc) := TC.out.blk.1.2
          have G3d : True := trivial
          clear s3 f3 a3 q2 q2' TB
          go_wp2_with fail
          refine hK.out _ _ trivial (fun hS => ?_)
          clear hK K
          refine wpAnyH_ready (rs := [6]) (by kernel_rfl) (by simp) ?_
          refine AllReadyH.cons rfl (fun K hK => ?_) AllReadyH.nil
          go_simp
          refine hK.out _ _ trivial (fun hS => ?_)
          clear hK K
          refine wpAnyH_ready (rs := [7]) (by kernel_rfl) (by simp) ?_
          refine AllReadyH.cons rfl (fun K hK => ?_) AllReadyH.nil
          refine step_append_lies _ (by rfl) _ _ 25 (by rfl) (w.heap.size + 2) 37 j0 (.agg #[.slice none 0 0, .slice none 0 0, .slice none 0 0]) 3 72 Tryz.underlying25 gi gz0 gz1 gz2 rfl (by omega) (.slice sa k sc) k _ (by rfl) TC.out.rs ⟨x2.heap.size, 0, none⟩ 1 1 [.slice d0 (S k).nc e0, .slice d1 (S k).nl e1, .slice d2 (S k).nw e2] (by rfl) (by rfl) (World.news_of_block (cs := #[.slice d0 (S k).nc e0, .slice d1 (S k).nl e1, .slice d2 (S k).nw e2]) (t := 37) (fr := (0, 0)) (heap_alloc_new x2 _)) (by simp [Value.oneCell']) (by omega) (by unfold maxLen; omega) (by omega) TC.out.lo (x2.heap.size + 1) (by simp) ?_
          intro hh cap' y OY GY AY LY
          have OS : OwnV y (w.heap.size + 2) (.slice (some ⟨hh, 0, none⟩) (k + 1) cap') (k + 1) (putU U k (.slice d0 (S k).nc e0) (.slice d1 (S k).nl e1) (.slice d2 (S k).nw e2)) := by
            unfold OwnV
            rw [listU_new]
            exact OY
          have T2 : Hid (GT w (y.setCell ⟨w.heap.size + 1, 1, none⟩ (.slice (some ⟨hh, 0, none⟩) (k + 1) cap')) (k + 1) (k + 1) F S (putU U k (.slice d0 (S k).nc e0) (.slice d1 (S k).nl e1) (.slice d2 (S k).nw e2)) (fun i => if i = k + 1 then x2.heap.size else z i) (.slice (some ⟨gg, 0, none⟩) (k + 1) cap) (.slice (some ⟨hh, 0, none⟩) (k + 1) cap')) := TC.out.putS (zz := x1.heap.size) (zt := x2.heap.size) SC.out.1 SC.out.2 ⟨T1'.out.zh, ZX.out, by simp⟩ (fun q e => (T1'.out.rr.block q e).2) (fun q e => (T1'.out.rs.block q e).2) OS GY (by rcases AY with e | e; exact Or.inl e.symm; exact Or.inr (by rw [e]; simp [Value.ownBlock]))
          refine hK.out _ _ trivial (fun hS => ?_)
          clear hK K
          refine wpAnyH_take (i := 8) (v := ?_) rfl (by kernel_rfl) (by kernel_rfl) (by kernel_rfl) (fun _ _ _ h => h) (Or.inl ⟨by kernel_rfl, ?_⟩) hS ?_
          rotate_left
          · intro wx hx
            go_simp
            try with_reducible rfl
          obtain ⟨⟨t0, t1⟩, ft0, ft1⟩ := blk2_past TC.out.blk GY (fun e => by have := (TC.out.rs.block _ e).1; omega)
          refine wpAnyH_ready (rs := [9]) (by kernel_rfl) (by simp) ?_
          refine AllReadyH.cons rfl (fun K hK => ?_) AllReadyH.nil
          go_simp
          refine hK.out _ _ trivial (fun hS => ?_)
          clear hK K
          refine wpAnyH_done (by kernel_rfl) ?_ _
          clear hS
          go_simp
          generalize y.setCell ⟨w.heap.size + 1, 1, none⟩ (.slice (some ⟨hh, 0, none⟩) (k + 1) cap') = x4 at T2 ⊢
          clear t0 t1 ft0 ft1 OY GY AY LY OS TC SC ZX T1' G0 G2 G3 G3d
          go_wp2
          go_roundw
          case rel => exact ⟨k + 1, putU U k (.slice d0 (S k).nc e0) (.slice d1 (S k).nl e1) (.slice d2 (S k).nw e2), fun i => if i = k + 1 then x2.heap.size else z i, some ⟨gg, 0, none⟩, cap, some ⟨hh, 0, none⟩, cap', by omega, by go_num, T2⟩
          case measure => simp [intOf]; omega
        · go_simp
          go_wp2_with fail
          refine (store_isO _ (P k) 3 _ _ _ _ _ _ gm u1 u2 _ (((RS.out.2.2.later T1'.out.below).2.1).later (below_dr (Below.refl _ _) 1)) RS.out.1.2.1 RS.out.1.2.2 RS.out.1.1 (S k).nc (S k).c RS.out.2.1).mono ?_
          rintro e x2 ⟨d0, e0, d1, e1, d2, e2, rfl, ⟨s3, f3, a3⟩, q2⟩
          have q2' : Below x1.heap.size x1 x2 := ⟨q2.os, q2.tape, q2.output, q2.size, q2.block⟩
          have ZX : Hid (x1.heap.size ≤ x2.heap.size) := q2'.size
          have TB : Hid (GT w x2 (k + 1) k F S U z (.slice (some ⟨gg, 0, none⟩) (k + 1) cap) (.slice sa k sc)) := T1'.out.later q2'
          have SC : Hid ((St (x2.alloc (.cells #[.slice d0 (S k).nc e0, .slice d1 (S k).nl e1, .slice d2 (S k).nw e2] 37)) x1.heap.size (S k) (.slice d0 (S k).nc e0) (.slice d1 (S k).nl e1) (.slice d2 (S k).nw e2) ∧ FreeS (x2.alloc (.cells #[.slice d0 (S k).nc e0, .slice d1 (S k).nl e1, .slice d2 (S k).nw e2] 37)) (S k) (.slice d0 (S k).nc e0) (.slice d1 (S k).nl e1) (.slice d2 (S k).nw e2) ∧ ApartD (S k) (.slice d0 (S k).nc e0) (.slice d1 (S k).nl e1) (.slice d2 (S k).nw e2)) ∧ OwnIn (S k) (.slice d0 (S k).nc e0) (.slice d1 (S k).nl e1) (.slice d2 (S k).nw e2) (fun q => x1.heap.size ≤ q ∧ q < x2.heap.size)) := ⟨⟨s3.alloc _, f3.later s3 (below_alloc _ _), a3⟩, s3.ownIn⟩
          have TC : Hid (GT w (x2.alloc (.cells #[.slice d0 (S k).nc e0, .slice d1 (S k).nl e1, .slice d2 (S k).nw e2] 37)) (k + 1) k F S U z (.slice (some ⟨gg, 0, none⟩) (k + 1) cap) (.slice sa k sc)) := TB.out.later (below_alloc _ _)
          have G2 : x2.cell? ⟨w.heap.size + 1, 1, none⟩ = some (.slice sa k sc) := TB.out.blk.1.2
          have G3 : (x2.alloc (.cells #[.slice d0 (S k).nc e0, .slice d1 (S k).nl e1, .slice d2 (S k).nw e2] 37)).cell? ⟨w.heap.size + 1, 1, none⟩ = some (.slice sa k sc) := TC.out.blk.1.2
          have G3d : True := trivial
          clear s3 f3 a3 q2 q2' TB
          go_wp2_with fail
          refine hK.out _ _ trivial (fun hS => ?_)
          clear hK K
          refine wpAnyH_ready (rs := [1, 6]) (by kernel_rfl) (by simp) ?_
          refine AllReadyH.cons rfl (fun K hK => ?_) (AllReadyH.cons rfl (fun K hK => ?_) AllReadyH.nil)
          · go_simp
            refine hK.out _ _ trivial (fun hS => ?_)
            clear hK K
            refine wpAnyH_ready (rs := [6]) (by kernel_rfl) (by simp) ?_
            refine AllReadyH.cons rfl (fun K hK => ?_) AllReadyH.nil
            go_simp
            refine hK.out _ _ trivial (fun hS => ?_)
            clear hK K
            refine wpAnyH_ready (rs := [7]) (by kernel_rfl) (by simp) ?_
            refine AllReadyH.cons rfl (fun K hK => ?_) AllReadyH.nil
            refine step_append_lies _ (by rfl) _ _ 25 (by rfl) (w.heap.size + 2) 37 j0 (.agg #[.slice none 0 0, .slice none 0 0, .slice none 0 0]) 3 72 Tryz.underlying25 gi gz0 gz1 gz2 rfl (by omega) (.slice sa k sc) k _ (by rfl) TC.out.rs ⟨x2.heap.size, 0, none⟩ 1 1 [.slice d0 (S k).nc e0, .slice d1 (S k).nl e1, .slice d2 (S k).nw e2] (by rfl) (by rfl) (World.news_of_block (cs := #[.slice d0 (S k).nc e0, .slice d1 (S k).nl e1, .slice d2 (S k).nw e2]) (t := 37) (fr := (0, 0)) (heap_alloc_new x2 _)) (by simp [Value.oneCell']) (by omega) (by unfold maxLen; omega) (by omega) TC.out.lo (x2.heap.size + 1) (by simp) ?_
            intro hh cap' y OY GY AY LY
            have OS : OwnV y (w.heap.size + 2) (.slice (some ⟨hh, 0, none⟩) (k + 1) cap') (k + 1) (putU U k (.slice d0 (S k).nc e0) (.slice d1 (S k).nl e1) (.slice d2 (S k).nw e2)) := by
              unfold OwnV
              rw [listU_new]
              exact OY
            have T2 : Hid (GT w (y.setCell ⟨w.heap.size + 1, 1, none⟩ (.slice (some ⟨hh, 0, none⟩) (k + 1) cap')) (k + 1) (k + 1) F S (putU U k (.slice d0 (S k).nc e0) (.slice d1 (S k).nl e1) (.slice d2 (S k).nw e2)) (fun i => if i = k + 1 then x2.heap.size else z i) (.slice (some ⟨gg, 0, none⟩) (k + 1) cap) (.slice (some ⟨hh, 0, none⟩) (k + 1) cap')) := TC.out.putS (zz := x1.heap.size) (zt := x2.heap.size) SC.out.1 SC.out.2 ⟨T1'.out.zh, ZX.out, by simp⟩ (fun q e => (T1'.out.rr.block q e).2) (fun q e => (T1'.out.rs.block q e).2) OS GY (by rcases AY with e | e; exact Or.inl e.symm; exact Or.inr (by rw [e]; simp [Value.ownBlock]))
            refine hK.out _ _ trivial (fun hS => ?_)
            clear hK K
            refine wpAnyH_take (i := 8) (v := ?_) rfl (by kernel_rfl) (by kernel_rfl) (by kernel_rfl) (fun _ _ _ h => h) (Or.inl ⟨by kernel_rfl, ?_⟩) hS ?_
            rotate_left
            · intro wx hx
              go_simp
              try with_reducible rfl
            obtain ⟨⟨t0, t1⟩, ft0, ft1⟩ := blk2_past TC.out.blk GY (fun e => by have := (TC.out.rs.block _ e).1; omega)
            refine wpAnyH_ready (rs := [9]) (by kernel_rfl) (by simp) ?_
            refine AllReadyH.cons rfl (fun K hK => ?_) AllReadyH.nil
            go_simp
            refine hK.out _ _ trivial (fun hS => ?_)
            clear hK K
            refine wpAnyH_done (by kernel_rfl) ?_ _
            clear hS
            go_simp
            generalize y.setCell ⟨w.heap.size + 1, 1, none⟩ (.slice (some ⟨hh, 0, none⟩) (k + 1) cap') = x4 at T2 ⊢
            clear t0 t1 ft0 ft1 OY GY AY LY OS TC SC ZX T1' G0 G2 G3 G3d
            go_wp2
            go_roundw
            case rel => exact ⟨k + 1, putU U k (.slice d0 (S k).nc e0) (.slice d1 (S k).nl e1) (.slice d2 (S k).nw e2), fun i => if i = k + 1 then x2.heap.size else z i, some ⟨gg, 0, none⟩, cap, some ⟨hh, 0, none⟩, cap', by omega, by go_num, T2⟩
            case measure => simp [intOf]; omega
          · go_simp
            refine hK.out _ _ trivial (fun hS => ?_)
            clear hK K
            refine wpAnyH_ready (rs := [1]) (by kernel_rfl) (by simp) ?_
            refine AllReadyH.cons rfl (fun K hK => ?_) AllReadyH.nil
            go_simp
            refine hK.out _ _ trivial (fun hS => ?_)
            clear hK K
            refine wpAnyH_ready (rs := [7]) (by kernel_rfl) (by simp) ?_
            refine AllReadyH.cons rfl (fun K hK => ?_) AllReadyH.nil
            refine step_append_lies _ (by rfl) _ _ 25 (by rfl) (w.heap.size + 2) 37 j0 (.agg #[.slice none 0 0, .slice none 0 0, .slice none 0 0]) 3 72 Tryz.underlying25 gi gz0 gz1 gz2 rfl (by omega) (.slice sa k sc) k _ (by rfl) TC.out.rs ⟨x2.heap.size, 0, none⟩ 1 1 [.slice d0 (S k).nc e0, .slice d1 (S k).nl e1, .slice d2 (S k).nw e2] (by rfl) (by rfl) (World.news_of_block (cs := #[.slice d0 (S k).nc e0, .slice d1 (S k).nl e1, .slice d2 (S k).nw e2]) (t := 37) (fr := (0, 0)) (heap_alloc_new x2 _)) (by simp [Value.oneCell']) (by omega) (by unfold maxLen; omega) (by omega) TC.out.lo (x2.heap.size + 1) (by simp) ?_
            intro hh cap' y OY GY AY LY
            have OS : OwnV y (w.heap.size + 2) (.slice (some ⟨hh, 0, none⟩) (k + 1) cap') (k + 1) (putU U k (.slice d0 (S k).nc e0) (.slice d1 (S k).nl e1) (.slice d2 (S k).nw e2)) := by
              unfold OwnV
              rw [listU_new]
              exact OY
            have T2 : Hid (GT w (y.setCell ⟨w.heap.size + 1, 1, none⟩ (.slice (some ⟨hh, 0, none⟩) (k + 1) cap')) (k + 1) (k + 1) F S (putU U k (.slice d0 (S k).nc e0) (.slice d1 (S k).nl e1) (.slice d2 (S k).nw e2)) (fun i => if i = k + 1 then x2.heap.size else z i) (.slice (some ⟨gg, 0, none⟩) (k + 1) cap) (.slice (some ⟨hh, 0, none⟩) (k + 1) cap')) := TC.out.putS (zz := x1.heap.size) (zt := x2.heap.size) SC.out.1 SC.out.2 ⟨T1'.out.zh, ZX.out, by simp⟩ (fun q e => (T1'.out.rr.block q e).2) (fun q e => (T1'.out.rs.block q e).2) OS GY (by rcases AY with e | e; exact Or.inl e.symm; exact Or.inr (by rw [e]; simp [Value.ownBlock]))
            refine hK.out _ _ trivial (fun hS => ?_)
            clear hK K
            refine wpAnyH_take (i := 8) (v := ?_) rfl (by kernel_rfl) (by kernel_rfl) (by kernel_rfl) (fun _ _ _ h => h) (Or.inl ⟨by kernel_rfl, ?_⟩) hS ?_
            rotate_left
            · intro wx hx
              go_simp
              try with_reducible rfl
            obtain ⟨⟨t0, t1⟩, ft0, ft1⟩ := blk2_past TC.out.blk GY (fun e => by have := (TC.out.rs.block _ e).1; omega)
            refine wpAnyH_ready (rs := [9]) (by kernel_rfl) (by simp) ?_
            refine AllReadyH.cons rfl (fun K hK => ?_) AllReadyH.nil
            go_simp
            refine hK.out _ _ trivial (fun hS => ?_)
            clear hK K
            refine wpAnyH_done (by kernel_rfl) ?_ _
            clear hS
            go_simp
            generalize y.setCell ⟨w.heap.size + 1, 1, none⟩ (.slice (some ⟨hh, 0, none⟩) (k + 1) cap') = x4 at T2 ⊢
            clear t0 t1 ft0 ft1 OY GY AY LY OS TC SC ZX T1' G0 G2 G3 G3d
            go_wp2
            go_roundw
            case rel => exact ⟨k + 1, putU U k (.slice d0 (S k).nc e0) (.slice d1 (S k).nl e1) (.slice d2 (S k).nw e2), fun i => if i = k + 1 then x2.heap.size else z i, some ⟨gg, 0, none⟩, cap, some ⟨hh, 0, none⟩, cap', by omega, by go_num, T2⟩
            case measure => simp [intOf]; omega
      · go_simp
        refine hK.out _ _ (RG.out.below TA.out.below) (fun hS => ?_)
        clear hK K
        refine wpAnyH_ready (rs := [1]) (by kernel_rfl) (by simp) ?_
        refine AllReadyH.cons rfl (fun K hK => ?_) AllReadyH.nil
        go_simp
        refine hK.out _ _ hS (fun hS => ?_)
        clear hK K
        refine wpAnyH_ready (rs := [7]) (by kernel_rfl) (by simp) ?_
        refine AllReadyH.cons rfl (fun K hK => ?_) AllReadyH.nil
        refine step_append_lies _ (by rfl) _ _ 24 (by rfl) (w.heap.size + 2) 89 i0 (.agg #[.int .i64 0, .int .i64 0, .int .i64 0]) 3 24 Tryz.underlying24 hi hz0 hz1 hz2 rfl (by omega) (.slice ra k rc) k _ (by rfl) TA.out.rr ⟨wr.heap.size, 0, none⟩ 1 1 [.int .i64 fr, .int .i64 to, .int .i64 ep] (by rfl) (by rfl) (World.news_of_block (cs := #[.int .i64 fr, .int .i64 to, .int .i64 ep]) (t := 89) (fr := (0, 0)) (heap_alloc_new wr _)) (by simp [Value.oneCell']) (by omega) (by unfold maxLen; omega) (by omega) TA.out.lo (wr.heap.size + 1) (by simp) ?_
        intro gg cap y OY GY AY LY
        have OR : OwnM y (w.heap.size + 2) 89 3 (.slice (some ⟨gg, 0, none⟩) (k + 1) cap) (k + 1) (nums F ((k + 1) * 3)) := by
          unfold OwnM
          rw [nums_three, HF.out.1, HF.out.2.1, HF.out.2.2, List.map_append]
          exact OY
        have T1 := TA.out.putR OR GY (by rcases AY with e | e; exact Or.inl e.symm; exact Or.inr (by rw [e]; simp [Value.ownBlock]))
        have hS' := RG.out.below (below_past TA.out.below TA.out.rr (by omega) GY)
        refine hK.out _ _ hS' (fun hS => ?_)
        clear hK K hS'
        refine wpAnyH_take (i := 8) (v := ?_) rfl (by kernel_rfl) (by kernel_rfl) (by kernel_rfl) (fun _ _ _ h => h) (Or.inl ⟨by kernel_rfl, ?_⟩) hS ?_
        rotate_left
        · intro wx hx
          obtain ⟨hx0, hx1, hx2⟩ := hx
          go_simp
          try with_reducible rfl
        obtain ⟨⟨t0, t1⟩, ft0, ft1⟩ := blk2_past TA.out.blk GY (fun e => by have := (TA.out.rr.block _ e).1; omega)
        have T1' : Hid (GT w (y.setCell ⟨w.heap.size + 1, 0, none⟩ (.slice (some ⟨gg, 0, none⟩) (k + 1) cap)) (k + 1) k F S U z (.slice (some ⟨gg, 0, none⟩) (k + 1) cap) (.slice sa k sc)) := T1
        clear T1
        refine wpAnyH_ready (rs := [9]) (by kernel_rfl) (by simp) ?_
        refine AllReadyH.cons rfl (fun K hK => ?_) AllReadyH.nil
        go_simp
        refine hK.out _ _ (RG.out.below T1'.out.below) (fun hS => ?_)
        clear hK K
        refine wpAnyH_done (by kernel_rfl) ?_ _
        clear hS
        go_simp
        generalize y.setCell ⟨w.heap.size + 1, 0, none⟩ (.slice (some ⟨gg, 0, none⟩) (k + 1) cap) = x1 at T1' ⊢
        clear t0 t1 ft0 ft1 OY GY AY LY OR TA TT F0 F1 F1d F0d
        go_wp2_with fail
        have G0 : x1.drew.cell? ⟨w.heap.size + 1, 1, none⟩ = some (.slice sa k sc) := T1'.out.blk.1.2
        refine wp_region_held_drew (S := fun _ => True) (by kernel_rfl) trivial (fun hS => ?_)
        refine wpAnyH_take (i := 0) (v := ?_) rfl (by kernel_rfl) (by kernel_rfl) (by kernel_rfl) (fun _ _ _ h => h) (Or.inl ⟨by kernel_rfl, ?_⟩) hS ?_
        rotate_left
        · intro wx hx
          go_simp
          try with_reducible rfl
        refine wpAnyH_take (i := 2) (v := ?_) rfl (by kernel_rfl) (by kernel_rfl) (by kernel_rfl) (fun _ _ _ h => h) (Or.inl ⟨by kernel_rfl, ?_⟩) hS ?_
        rotate_left
        · intro wx hx
          go_simp
          try with_reducible rfl
        refine wpAnyH_take (i := 3) (v := ?_) rfl (by kernel_rfl) (by kernel_rfl) (by kernel_rfl) (fun _ _ _ h => h) (Or.inl ⟨by kernel_rfl, ?_⟩) hS ?_
        rotate_left
        · intro wx hx
          go_simp
          try with_reducible rfl
        refine wpAnyH_take (i := 4) (v := ?_) rfl (by kernel_rfl) (by kernel_rfl) (by kernel_rfl) (fun _ _ _ h => h) (Or.inl ⟨by kernel_rfl, ?_⟩) hS ?_
        rotate_left
        · intro wx hx
          go_simp
          try with_reducible rfl
        refine wpAnyH_ready (rs := [1, 5]) (by kernel_rfl) (by simp) ?_
        refine AllReadyH.cons rfl (fun K hK => ?_) (AllReadyH.cons rfl (fun K hK => ?_) AllReadyH.nil)
        · go_simp
          refine hK.out _ _ trivial (fun hS => ?_)
          clear hK K
          refine wpAnyH_ready (rs := [5]) (by kernel_rfl) (by simp) ?_
          refine AllReadyH.cons rfl (fun K hK => ?_) AllReadyH.nil
          go_simp
          go_wp2_with fail
          refine (store_isO _ (P k) 3 _ _ _ _ _ _ gm u1 u2 _ (((RS.out.2.2.later T1'.out.below).2.1).later (below_dr (Below.refl _ _) 1)) RS.out.1.2.1 RS.out.1.2.2 RS.out.1.1 (S k).nc (S k).c RS.out.2.1).mono ?_
          rintro e x2 ⟨d0, e0, d1, e1, d2, e2, rfl, ⟨s3, f3, a3⟩, q2⟩
          have q2' : Below x1.heap.size x1 x2 := ⟨q2.os, q2.tape, q2.output, q2.size, q2.block⟩
          have ZX : Hid (x1.heap.size ≤ x2.heap.size) := q2'.size
          have TB : Hid (GT w x2 (k + 1) k F S U z (.slice (some ⟨gg, 0, none⟩) (k + 1) cap) (.slice sa k sc)) := T1'.out.later q2'
          have SC : Hid ((St (x2.alloc (.cells #[.slice d0 (S k).nc e0, .slice d1 (S k).nl e1, .slice d2 (S k).nw e2] 37)) x1.heap.size (S k) (.slice d0 (S k).nc e0) (.slice d1 (S k).nl e1) (.slice d2 (S k).nw e2) ∧ FreeS (x2.alloc (.cells #[.slice d0 (S k).nc e0, .slice d1 (S k).nl e1, .slice d2 (S k).nw e2] 37)) (S k) (.slice d0 (S k).nc e0) (.slice d1 (S k).nl e1) (.slice d2 (S k).nw e2) ∧ ApartD (S k) (.slice d0 (S k).nc e0) (.slice d1 (S k).nl e1) (.slice d2 (S k).nw e2)) ∧ OwnIn (S k) (.slice d0 (S k).nc e0) (.slice d1 (S k).nl e1) (.slice d2 (S k).nw e2) (fun q => x1.heap.size ≤ q ∧ q < x2.heap.size)) := ⟨⟨s3.alloc _, f3.later s3 (below_alloc _ _), a3⟩, s3.ownIn⟩
          have TC : Hid (GT w (x2.alloc (.cells #[.slice d0 (S k).nc e0, .slice d1 (S k).nl e1, .slice d2 (S k).nw e2] 37)) (k + 1) k F S U z (.slice (some ⟨gg, 0, none⟩) (k + 1) cap) (.slice sa k sc)) := TB.out.later (below_alloc _ _)
          have G2 : x2.cell? ⟨w.heap.size + 1, 1, none⟩ = some (.slice sa k sc) := TB.out.blk.1.2
          have G3 : (x2.alloc (.cells #[.slice d0 (S k).nc e0, .slice d1 (S k).nl e1, .slice d2 (S k).nw e2] 37)).cell? ⟨w.heap.size + 1, 1, none⟩ = some (.slice sa k sc) := TC.out.blk.1.2
          have G3d : True := trivial
          clear s3 f3 a3 q2 q2' TB
          go_wp2_with fail
          refine hK.out _ _ trivial (fun hS => ?_)
          clear hK K
          refine wpAnyH_ready (rs := [6]) (by kernel_rfl) (by simp) ?_
          refine AllReadyH.cons rfl (fun K hK => ?_) AllReadyH.nil
          go_simp
          refine hK.out _ _ trivial (fun hS => ?_)
          clear hK K
          refine wpAnyH_ready (rs := [7]) (by kernel_rfl) (by simp) ?_
          refine AllReadyH.cons rfl (fun K hK => ?_) AllReadyH.nil
          refine step_append_lies _ (by rfl) _ _ 25 (by rfl) (w.heap.size + 2) 37 j0 (.agg #[.slice none 0 0, .slice none 0 0, .slice none 0 0]) 3 72 Tryz.underlying25 gi gz0 gz1 gz2 rfl (by omega) (.slice sa k sc) k _ (by rfl) TC.out.rs ⟨x2.heap.size, 0, none⟩ 1 1 [.slice d0 (S k).nc e0, .slice d1 (S k).nl e1, .slice d2 (S k).nw e2] (by rfl) (by rfl) (World.news_of_block (cs := #[.slice d0 (S k).nc e0, .slice d1 (S k).nl e1, .slice d2 (S k).nw e2]) (t := 37) (fr := (0, 0)) (heap_alloc_new x2 _)) (by simp [Value.oneCell']) (by omega) (by unfold maxLen; omega) (by omega) TC.out.lo (x2.heap.size + 1) (by simp) ?_
          intro hh cap' y OY GY AY LY
          have OS : OwnV y (w.heap.size + 2) (.slice (some ⟨hh, 0, none⟩) (k + 1) cap') (k + 1) (putU U k (.slice d0 (S k).nc e0) (.slice d1 (S k).nl e1) (.slice d2 (S k).nw e2)) := by
            unfold OwnV
            rw [listU_new]
            exact OY
          have T2 : Hid (GT w (y.setCell ⟨w.heap.size + 1, 1, none⟩ (.slice (some ⟨hh, 0, none⟩) (k + 1) cap')) (k + 1) (k + 1) F S (putU U k (.slice d0 (S k).nc e0) (.slice d1 (S k).nl e1) (.slice d2 (S k).nw e2)) (fun i => if i = k + 1 then x2.heap.size else z i) (.slice (some ⟨gg, 0, none⟩) (k + 1) cap) (.slice (some ⟨hh, 0, none⟩) (k + 1) cap')) := TC.out.putS (zz := x1.heap.size) (zt := x2.heap.size) SC.out.1 SC.out.2 ⟨T1'.out.zh, ZX.out, by simp⟩ (fun q e => (T1'.out.rr.block q e).2) (fun q e => (T1'.out.rs.block q e).2) OS GY (by rcases AY with e | e; exact Or.inl e.symm; exact Or.inr (by rw [e]; simp [Value.ownBlock]))
          refine hK.out _ _ trivial (fun hS => ?_)
          clear hK K
          refine wpAnyH_take (i := 8) (v := ?_) rfl (by kernel_rfl) (by kernel_rfl) (by kernel_rfl) (fun _ _ _ h => h) (Or.inl ⟨by kernel_rfl, ?_⟩) hS ?_
          rotate_left
          · intro wx hx
            go_simp
            try with_reducible rfl
          obtain ⟨⟨t0, t1⟩, ft0, ft1⟩ := blk2_past TC.out.blk GY (fun e => by have := (TC.out.rs.block _ e).1; omega)
          refine wpAnyH_ready (rs := [9]) (by kernel_rfl) (by simp) ?_
          refine AllReadyH.cons rfl (fun K hK => ?_) AllReadyH.nil
          go_simp
          refine hK.out _ _ trivial (fun hS => ?_)
          clear hK K
          refine wpAnyH_done (by kernel_rfl) ?_ _
          clear hS
          go_simp
          generalize y.setCell ⟨w.heap.size + 1, 1, none⟩ (.slice (some ⟨hh, 0, none⟩) (k + 1) cap') = x4 at T2 ⊢
          clear t0 t1 ft0 ft1 OY GY AY LY OS TC SC ZX T1' G0 G2 G3 G3d
          go_wp2
          go_roundw
          case rel => exact ⟨k + 1, putU U k (.slice d0 (S k).nc e0) (.slice d1 (S k).nl e1) (.slice d2 (S k).nw e2), fun i => if i = k + 1 then x2.heap.size else z i, some ⟨gg, 0, none⟩, cap, some ⟨hh, 0, none⟩, cap', by omega, by go_num, T2⟩
          case measure => simp [intOf]; omega
        · go_simp
          go_wp2_with fail
          refine (store_isO _ (P k) 3 _ _ _ _ _ _ gm u1 u2 _ (((RS.out.2.2.later T1'.out.below).2.1).later (below_dr (Below.refl _ _) 1)) RS.out.1.2.1 RS.out.1.2.2 RS.out.1.1 (S k).nc (S k).c RS.out.2.1).mono ?_
          rintro e x2 ⟨d0, e0, d1, e1, d2, e2, rfl, ⟨s3, f3, a3⟩, q2⟩
          have q2' : Below x1.heap.size x1 x2 := ⟨q2.os, q2.tape, q2.output, q2.size, q2.block⟩
          have ZX : Hid (x1.heap.size ≤ x2.heap.size) := q2'.size
          have TB : Hid (GT w x2 (k + 1) k F S U z (.slice (some ⟨gg, 0, none⟩) (k + 1) cap) (.slice sa k sc)) := T1'.out.later q2'
          have SC : Hid ((St (x2.alloc (.cells #[.slice d0 (S k).nc e0, .slice d1 (S k).nl e1, .slice d2 (S k).nw e2] 37)) x1.heap.size (S k) (.slice d0 (S k).nc e0) (.slice d1 (S k).nl e1) (.slice d2 (S k).nw e2) ∧ FreeS (x2.alloc (.cells #[.slice d0 (S k).nc e0, .slice d1 (S k).nl e1, .slice d2 (S k).nw e2] 37)) (S k) (.slice d0 (S k).nc e0) (.slice d1 (S k).nl e1) (.slice d2 (S k).nw e2) ∧ ApartD (S k) (.slice d0 (S k).nc e0) (.slice d1 (S k).nl e1) (.slice d2 (S k).nw e2)) ∧ OwnIn (S k) (.slice d0 (S k).nc e0) (.slice d1 (S k).nl e1) (.slice d2 (S k).nw e2) (fun q => x1.heap.size ≤ q ∧ q < x2.heap.size)) := ⟨⟨s3.alloc _, f3.later s3 (below_alloc _ _), a3⟩, s3.ownIn⟩
          have TC : Hid (GT w (x2.alloc (.cells #[.slice d0 (S k).nc e0, .slice d1 (S k).nl e1, .slice d2 (S k).nw e2] 37)) (k + 1) k F S U z (.slice (some ⟨gg, 0, none⟩) (k + 1) cap) (.slice sa k sc)) := TB.out.later (below_alloc _ _)
          have G2 : x2.cell? ⟨w.heap.size + 1, 1, none⟩ = some (.slice sa k sc) := TB.out.blk.1.2
          have G3 : (x2.alloc (.cells #[.slice d0 (S k).nc e0, .slice d1 (S k).nl e1, .slice d2 (S k).nw e2] 37)).cell? ⟨w.heap.size + 1, 1, none⟩ = some (.slice sa k sc) := TC.out.blk.1.2
          have G3d : True := trivial
          clear s3 f3 a3 q2 q2' TB
          go_wp2_with fail
          refine hK.out _ _ trivial (fun hS => ?_)
          clear hK K
          refine wpAnyH_ready (rs := [1, 6]) (by kernel_rfl) (by simp) ?_
          refine AllReadyH.cons rfl (fun K hK => ?_) (AllReadyH.cons rfl (fun K hK => ?_) AllReadyH.nil)
          · go_simp
            refine hK.out _ _ trivial (fun hS => ?_)
            clear hK K
            refine wpAnyH_ready (rs := [6]) (by kernel_rfl) (by simp) ?_
            refine AllReadyH.cons rfl (fun K hK => ?_) AllReadyH.nil
            go_simp
            refine hK.out _ _ trivial (fun hS => ?_)
            clear hK K
            refine wpAnyH_ready (rs := [7]) (by kernel_rfl) (by simp) ?_
            refine AllReadyH.cons rfl (fun K hK => ?_) AllReadyH.nil
            refine step_append_lies _ (by rfl) _ _ 25 (by rfl) (w.heap.size + 2) 37 j0 (.agg #[.slice none 0 0, .slice none 0 0, .slice none 0 0]) 3 72 Tryz.underlying25 gi gz0 gz1 gz2 rfl (by omega) (.slice sa k sc) k _ (by rfl) TC.out.rs ⟨x2.heap.size, 0, none⟩ 1 1 [.slice d0 (S k).nc e0, .slice d1 (S k).nl e1, .slice d2 (S k).nw e2] (by rfl) (by rfl) (World.news_of_block (cs := #[.slice d0 (S k).nc e0, .slice d1 (S k).nl e1, .slice d2 (S k).nw e2]) (t := 37) (fr := (0, 0)) (heap_alloc_new x2 _)) (by simp [Value.oneCell']) (by omega) (by unfold maxLen; omega) (by omega) TC.out.lo (x2.heap.size + 1) (by simp) ?_
            intro hh cap' y OY GY AY LY
            have OS : OwnV y (w.heap.size + 2) (.slice (some ⟨hh, 0, none⟩) (k + 1) cap') (k + 1) (putU U k (.slice d0 (S k).nc e0) (.slice d1 (S k).nl e1) (.slice d2 (S k).nw e2)) := by
              unfold OwnV
              rw [listU_new]
              exact OY
            have T2 : Hid (GT w (y.setCell ⟨w.heap.size + 1, 1, none⟩ (.slice (some ⟨hh, 0, none⟩) (k + 1) cap')) (k + 1) (k + 1) F S (putU U k (.slice d0 (S k).nc e0) (.slice d1 (S k).nl e1) (.slice d2 (S k).nw e2)) (fun i => if i = k + 1 then x2.heap.size else z i) (.slice (some ⟨gg, 0, none⟩) (k + 1) cap) (.slice (some ⟨hh, 0, none⟩) (k + 1) cap')) := TC.out.putS (zz := x1.heap.size) (zt := x2.heap.size) SC.out.1 SC.out.2 ⟨T1'.out.zh, ZX.out, by simp⟩ (fun q e => (T1'.out.rr.block q e).2) (fun q e => (T1'.out.rs.block q e).2) OS GY (by rcases AY with e | e; exact Or.inl e.symm; exact Or.inr (by rw [e]; simp [Value.ownBlock]))
            refine hK.out _ _ trivial (fun hS => ?_)
            clear hK K
            refine wpAnyH_take (i := 8) (v := ?_) rfl (by kernel_rfl) (by kernel_rfl) (by kernel_rfl) (fun _ _ _ h => h) (Or.inl ⟨by kernel_rfl, ?_⟩) hS ?_
            rotate_left
            · intro wx hx
              go_simp
              try with_reducible rfl
            obtain ⟨⟨t0, t1⟩, ft0, ft1⟩ := blk2_past TC.out.blk GY (fun e => by have := (TC.out.rs.block _ e).1; omega)
            refine wpAnyH_ready (rs := [9]) (by kernel_rfl) (by simp) ?_
            refine AllReadyH.cons rfl (fun K hK => ?_) AllReadyH.nil
            go_simp
            refine hK.out _ _ trivial (fun hS => ?_)
            clear hK K
            refine wpAnyH_done (by kernel_rfl) ?_ _
            clear hS
            go_simp
            generalize y.setCell ⟨w.heap.size + 1, 1, none⟩ (.slice (some ⟨hh, 0, none⟩) (k + 1) cap') = x4 at T2 ⊢
            clear t0 t1 ft0 ft1 OY GY AY LY OS TC SC ZX T1' G0 G2 G3 G3d
            go_wp2
            go_roundw
            case rel => exact ⟨k + 1, putU U k (.slice d0 (S k).nc e0) (.slice d1 (S k).nl e1) (.slice d2 (S k).nw e2), fun i => if i = k + 1 then x2.heap.size else z i, some ⟨gg, 0, none⟩, cap, some ⟨hh, 0, none⟩, cap', by omega, by go_num, T2⟩
            case measure => simp [intOf]; omega
          · go_simp
            refine hK.out _ _ trivial (fun hS => ?_)
            clear hK K
            refine wpAnyH_ready (rs := [1]) (by kernel_rfl) (by simp) ?_
            refine AllReadyH.cons rfl (fun K hK => ?_) AllReadyH.nil
            go_simp
            refine hK.out _ _ trivial (fun hS => ?_)
            clear hK K
            refine wpAnyH_ready (rs := [7]) (by kernel_rfl) (by simp) ?_
            refine AllReadyH.cons rfl (fun K hK => ?_) AllReadyH.nil
            refine step_append_lies _ (by rfl) _ _ 25 (by rfl) (w.heap.size + 2) 37 j0 (.agg #[.slice none 0 0, .slice none 0 0, .slice none 0 0]) 3 72 Tryz.underlying25 gi gz0 gz1 gz2 rfl (by omega) (.slice sa k sc) k _ (by rfl) TC.out.rs ⟨x2.heap.size, 0, none⟩ 1 1 [.slice d0 (S k).nc e0, .slice d1 (S k).nl e1, .slice d2 (S k).nw e2] (by rfl) (by rfl) (World.news_of_block (cs := #[.slice d0 (S k).nc e0, .slice d1 (S k).nl e1, .slice d2 (S k).nw e2]) (t := 37) (fr := (0, 0)) (heap_alloc_new x2 _)) (by simp [Value.oneCell']) (by omega) (by unfold maxLen; omega) (by omega) TC.out.lo (x2.heap.size + 1) (by simp) ?_
            intro hh cap' y OY GY AY LY
            have OS : OwnV y (w.heap.size + 2) (.slice (some ⟨hh, 0, none⟩) (k + 1) cap') (k + 1) (putU U k (.slice d0 (S k).nc e0) (.slice d1 (S k).nl e1) (.slice d2 (S k).nw e2)) := by
              unfold OwnV
              rw [listU_new]
              exact OY
            have T2 : Hid (GT w (y.setCell ⟨w.heap.size + 1, 1, none⟩ (.slice (some ⟨hh, 0, none⟩) (k + 1) cap')) (k + 1) (k + 1) F S (putU U k (.slice d0 (S k).nc e0) (.slice d1 (S k).nl e1) (.slice d2 (S k).nw e2)) (fun i => if i = k + 1 then x2.heap.size else z i) (.slice (some ⟨gg, 0, none⟩) (k + 1) cap) (.slice (some ⟨hh, 0, none⟩) (k + 1) cap')) := TC.out.putS (zz := x1.heap.size) (zt := x2.heap.size) SC.out.1 SC.out.2 ⟨T1'.out.zh, ZX.out, by simp⟩ (fun q e => (T1'.out.rr.block q e).2) (fun q e => (T1'.out.rs.block q e).2) OS GY (by rcases AY with e | e; exact Or.inl e.symm; exact Or.inr (by rw [e]; simp [Value.ownBlock]))
            refine hK.out _ _ trivial (fun hS => ?_)
            clear hK K
            refine wpAnyH_take (i := 8) (v := ?_) rfl (by kernel_rfl) (by kernel_rfl) (by kernel_rfl) (fun _ _ _ h => h) (Or.inl ⟨by kernel_rfl, ?_⟩) hS ?_
            rotate_left
            · intro wx hx
              go_simp
              try with_reducible rfl
            obtain ⟨⟨t0, t1⟩, ft0, ft1⟩ := blk2_past TC.out.blk GY (fun e => by have := (TC.out.rs.block _ e).1; omega)
            refine wpAnyH_ready (rs := [9]) (by kernel_rfl) (by simp) ?_
            refine AllReadyH.cons rfl (fun K hK => ?_) AllReadyH.nil
            go_simp
            refine hK.out _ _ trivial (fun hS => ?_)
            clear hK K
            refine wpAnyH_done (by kernel_rfl) ?_ _
            clear hS
            go_simp
            generalize y.setCell ⟨w.heap.size + 1, 1, none⟩ (.slice (some ⟨hh, 0, none⟩) (k + 1) cap') = x4 at T2 ⊢
            clear t0 t1 ft0 ft1 OY GY AY LY OS TC SC ZX T1' G0 G2 G3 G3d
            go_wp2
            go_roundw
            case rel => exact ⟨k + 1, putU U k (.slice d0 (S k).nc e0) (.slice d1 (S k).nl e1) (.slice d2 (S k).nw e2), fun i => if i = k + 1 then x2.heap.size else z i, some ⟨gg, 0, none⟩, cap, some ⟨hh, 0, none⟩, cap', by omega, by go_num, T2⟩
            case measure => simp [intOf]; omega
    · obtain rfl : k = n := by omega
      obtain ⟨⟨t0, t1⟩, _⟩ := TT.out.blk
      obtain ⟨⟨r0, r1, r2⟩, f0, f1, f2⟩ := TT.out.res
      go_wp2
      refine bodyPost_ret (v := .agg #[.int .i64 0, .slice ra k rc, .slice sa k sc]) (by simp [results, Tryz.results23, go_sem, r0, r1, r2]) rfl ⟨ra, rc, sa, sc, U, z, rfl, ?_, ((TT.out.below.setCell (Nat.le_refl _) _).setCell (Nat.le_refl _) _).setCell (Nat.le_refl _) _⟩
      have h1 := TT.out.fineR
      have h2 := ((h1.within (within_set _ w.heap.size 0 (.int .i64 0)) (by omega)).within (within_set _ w.heap.size 1 (.slice ra k rc)) (by omega)).within (within_set _ w.heap.size 2 (.slice sa k sc)) (by omega)
      exact h2.up (by omega)
end

section
open Go.RowKit Go.Maps
-- Own text. NewGroups: what the model's and the program's answer, the same code and the same groups.
theorem fineR_nil (w : World) (lo : Nat) (F : Nat → Int) (T : Nat → Sto) (_ : lo ≤ w.heap.size) : FineR w lo w.heap.size 0 F 0 T none 0 none (fun _ _ => .bool true) (fun _ => lo) :=
  ⟨⟨⟨_, _, rfl, fun h => absurd h (Nat.lt_irrefl 0)⟩, Free.of0 _ _⟩, ⟨fun h => absurd h (Nat.lt_irrefl 0), fun i hi => absurd hi (Nat.not_lt_zero i)⟩, ⟨fun i hi => absurd hi (Nat.not_lt_zero i), fun i hi => absurd hi (Nat.not_lt_zero i), Nat.le_refl _⟩, fun h => absurd h (Nat.lt_irrefl 0)⟩
theorem resGr_nil {w w' : World} {c : Int} {e : Ending} {F : Nat → Int} {T : Nat → Sto} (he : e = .returned (.agg #[.int .i64 c, .slice none 0 0, .slice none 0 0])) (hb : Below w.heap.size w w') : ResGr w c 0 F 0 T e w' := ⟨none, 0, none, 0, _, _, he, fineR_nil w' w.heap.size F T hb.size, hb⟩
set_option maxHeartbeats 1000000 in
theorem l7Bad_is (c : Int) (F : Nat → Int) (T : Nat → Sto) (w : World) : Calls Tryz.prog 25 #[.int .i64 c] w (ResGr w c 0 F 0 T) := by
  go_enter Tryz.func25, Tryz.ntmps25
  go_wp2
  exact bodyPost_ret (v := .agg #[.int .i64 c, .slice none 0 0, .slice none 0 0]) (by simp [results, Tryz.results25, go_sem]) rfl (resGr_nil rfl (by first | exact below_alloc _ _ | exact ((((below_alloc _ _).setCell (Nat.le_refl _) _).setCell (Nat.le_refl _) _).setCell (Nat.le_refl _) _)))
/-- One range and one store, each in blocks of its own. -/
theorem fineR_one {x : World} {lo zz zt sb : Nat} {F : Nat → Int} {S : Sto} {ra : Option Addr} {rc : Nat} {u0 u1 u2 : Value} (hr : Row x lo 3 1 F (.slice ra 1 rc) ∧ Free x (1 * 3) (.slice ra 1 rc)) (hq : ∀ q, (Value.slice ra 1 rc).ownBlock = some q → q < zz) (hs : St x zz S u0 u1 u2 ∧ FreeS x S u0 u1 u2 ∧ ApartD S u0 u1 u2) (ho : OwnIn S u0 u1 u2 (fun q => zz ≤ q ∧ q < zt)) (hz : lo ≤ zz ∧ zz ≤ zt ∧ zt ≤ sb) (hb : Blk3 x sb u0 u1 u2) :
    FineR x lo x.heap.size 1 F 1 (fun _ => S) ra rc (some ⟨sb, 0, none⟩) (putU (fun _ _ => .bool true) 0 u0 u1 u2) (fun i => if i = 0 + 1 then zt else zz) := by
  have hlt := hb.lt
  have fi : Fine x (fun i => if i = 0 + 1 then zt else zz) (0 + 1) (fun _ => S) (putU (fun _ _ => .bool true) 0 u0 u1 u2) := Fine.put (z := fun _ => zz) (fun i hi => absurd hi (Nat.not_lt_zero i)) rfl hs ho hz.2.1
  have sp : ∀ q, (q < zz ∨ zt ≤ q) → Spare 1 (fun _ => S) (putU (fun _ _ => .bool true) 0 u0 u1 u2) q := fun q h i hi => by
    obtain rfl : i = 0 := by omega
    simp only [putU, if_true]
    exact ho.mono (fun p hp => by omega)
  refine ⟨hr, ⟨fun _ => ⟨sb, rfl, by omega, ⟨hlt, fun p hp => ?_, fun i hi => ?_⟩, sp sb (Or.inr hz.2.2)⟩, fi⟩, ⟨fun i hi => ?_, fun i hi => ?_, Nat.le_refl _⟩, fun _ q e => ⟨sp q (Or.inl (hq q e)), fun _ e' => ?_, by have := hq q e; omega⟩⟩
  · match p, hp with
    | 0, _ => exact ⟨⟨_, hb.1.1⟩, hb.2.1⟩
    | 1, _ => exact ⟨⟨_, hb.1.2.1⟩, hb.2.2.1⟩
    | 2, _ => exact ⟨⟨_, hb.1.2.2⟩, hb.2.2.2⟩
  · obtain rfl : i = 0 := by omega
    simp only [putU, if_true]
    exact hb.1
  · obtain rfl : i = 0 := by omega
    show lo ≤ (if 0 = 0 + 1 then zt else zz)
    rw [if_neg (by omega)]; exact hz.1
  · obtain rfl : i = 0 := by omega
    show (if 0 + 1 = 0 + 1 then zt else zz) ≤ _
    rw [if_pos rfl]; omega
  · simp only [Option.some.injEq, Addr.mk.injEq, and_true] at e'
    have := hq q e
    omega
/-- The call's blocks: the store, and the answer that is under way. -/
def CallN (w : World) (B : Nat) (S : Sto) (v0 v1 v2 : Value) (x : World) : Prop := Blk3 x w.heap.size v0 v1 v2 ∧ Blk3 x (w.heap.size + 1) (.int .i64 0) (.slice none 0 0) (.slice none 0 0) ∧ St x B S v0 v1 v2 ∧ Below w.heap.size w x
theorem CallN.later {w x x' : World} {B : Nat} {S : Sto} {v0 v1 v2 : Value} (h : CallN w B S v0 v1 v2 x) (hb : Below x.heap.size x x') : CallN w B S v0 v1 v2 x' := ⟨h.1.later hb, h.2.1.later hb, h.2.2.1.later hb, h.2.2.2.trans (hb.mono h.2.2.2.size)⟩
theorem CallN.new {w : World} {B : Nat} {S : Sto} {v0 v1 v2 : Value} (h : St w B S v0 v1 v2) (t t' : TypeId) : CallN w B S v0 v1 v2 ((w.alloc (.cells #[v0, v1, v2] t)).alloc (.cells #[.int .i64 0, .slice none 0 0, .slice none 0 0] t')) := by
  refine ⟨(Blk3.new _ _ _ _ _).alloc _, ?_, (h.alloc _).alloc _, (below_alloc _ _).alloc (by simp) _⟩
  have := Blk3.new (w.alloc (.cells #[v0, v1, v2] t)) (.int .i64 0) (.slice none 0 0) (.slice none 0 0) t'
  rwa [World.size_alloc] at this
def NewAns (S : Sto) (ep : Int) (c : Int) (nr : Nat) (F : Nat → Int) (n : Nat) (T : Nat → Sto) : Prop :=
  ((storeF S ≠ 0 ∧ c = storeF S ∨ storeF S = 0 ∧ ¬ (1 ≤ ep ∧ ep ≤ 9999) ∧ c = 3) ∧ nr = 0 ∧ n = 0) ∨ (storeF S = 0 ∧ (1 ≤ ep ∧ ep ≤ 9999) ∧ c = 0 ∧ nr = 1 ∧ F = wholeF ep ∧ n = 1 ∧ T = fun _ => S)
/-- What the last region reads: the store, the list of ranges and the one range. -/
def NewE (w : World) (v0 v1 v2 : Value) (rb : Nat) (gr oR rc : Nat) (ep : Int) (x : World) : Prop := Blk3 x w.heap.size v0 v1 v2 ∧ x.cell? ⟨rb, 1, none⟩ = some (.slice (some ⟨gr, oR, none⟩) 1 rc) ∧ x.cell? ⟨gr, oR, none⟩ = some (.int .i64 0) ∧ x.cell? ⟨gr, oR + 1, none⟩ = some (.int .i64 200) ∧ x.cell? ⟨gr, oR + 2, none⟩ = some (.int .i64 ep)
theorem NewE.kept {w x x' : World} {v0 v1 v2 : Value} {rb gr oR rc : Nat} {ep : Int} (h : NewE w v0 v1 v2 rb gr oR rc ep x) (hb : ∀ q, q = w.heap.size ∨ q = rb ∨ q = gr → x'.heap[q]? = x.heap[q]?) : NewE w v0 v1 v2 rb gr oR rc ep x' := by
  have k : ∀ b p, b = w.heap.size ∨ b = rb ∨ b = gr → x'.cell? ⟨b, p, none⟩ = x.cell? ⟨b, p, none⟩ := fun b p h' => World.cell?_of_block (w := x) (a := ⟨b, p, none⟩) (hb b h')
  obtain ⟨h0, h1, h2, h3, h4⟩ := h
  exact ⟨h0.kept (hb _ (Or.inl rfl)), (k _ _ (Or.inr (Or.inl rfl))).trans h1, (k _ _ (Or.inr (Or.inr rfl))).trans h2, (k _ _ (Or.inr (Or.inr rfl))).trans h3, (k _ _ (Or.inr (Or.inr rfl))).trans h4⟩
theorem NewAns.get (S : Sto) (ep : Int) : ∃ c nr F n T, SmallG nr n T ∧ NewAns S ep c nr F n T := by
  have small : SmallG 0 0 (fun _ => S) := ⟨by omega, by omega, fun i hi => absurd hi (Nat.not_lt_zero i), by simp [sumN]⟩
  by_cases hz : storeF S = 0
  · by_cases he : 1 ≤ ep ∧ ep ≤ 9999
    · have Z := (storeF_zero hz).1
      refine ⟨0, 1, wholeF ep, 1, fun _ => S, ⟨by omega, by omega, fun i _ => ?_, ?_⟩, Or.inr ⟨hz, he, rfl, rfl, rfl, rfl, rfl⟩⟩
      · show SmallS S
        unfold SmallS; omega
      · simp only [sumN, sizeT]; omega
    · exact ⟨3, 0, wholeF ep, 0, fun _ => S, small, Or.inl ⟨Or.inr ⟨hz, he, rfl⟩, rfl, rfl⟩⟩
  · exact ⟨_, 0, wholeF ep, 0, fun _ => S, small, Or.inl ⟨Or.inl ⟨hz, rfl⟩, rfl, rfl⟩⟩
end
end

section
open Go.RowKit Go.Maps
-- Own text, merged of GrpT, GrpU, GrpV, GrpW.
section
-- Own text. What the program's pointToAll answers: a row of pointers to the stores that are worked on.
theorem Own.keptB {w w' : World} {B : Nat} {e : TypeId} {m n : Nat} {F : Nat → Int} {v : Value} (h : Own w B e m n F v) (hb : ∀ q, B ≤ q → q < w.heap.size → w'.heap[q]? = w.heap[q]?) : Own w' B e m n F v := by
  refine ⟨h.1, ?_⟩
  rcases h.2 with q | ⟨g, cap, cur, rfl, hg, hw, r⟩
  · exact Or.inl q
  · exact Or.inr ⟨g, cap, cur, rfl, hg, (hb g hg (Array.getElem?_eq_some_iff.1 hw).1).trans hw, r⟩
theorem RSt.keptB {x x' : World} {B b : Nat} {fr to ep : Int} {N : Nat} {m : Int → Int → Option Int} {nl : Nat} {l : Nat → Int} {nw : Nat} {k : Nat → Int} {g : Nat} {u1 u2 : Value} (h : RSt x B b fr to ep N m nl l nw k g u1 u2) (hb : ∀ q, B ≤ q → q < x.heap.size → x'.heap[q]? = x.heap[q]?) : RSt x' B b fr to ep N m nl l nw k g u1 u2 := by
  obtain ⟨⟨h0, h1, h2⟩, ⟨c1, c2, c3, c4, c5, c6⟩, h4⟩ := h
  have e := hb b c1 c3.lt
  exact ⟨⟨(World.cell?_of_block (w := x) (a := ⟨b, 0, none⟩) e).trans h0, (World.cell?_of_block (w := x) (a := ⟨b, 1, none⟩) e).trans h1, (World.cell?_of_block (w := x) (a := ⟨b, 2, none⟩) e).trans h2⟩, ⟨c1, c2, c3.kept e, c4.kept (hb g c2 c4.lt), c5.keptB hb, c6.keptB hb⟩, h4⟩
theorem RSt.mono {x : World} {B B' b : Nat} {fr to ep : Int} {N : Nat} {m : Int → Int → Option Int} {nl : Nat} {l : Nat → Int} {nw : Nat} {k : Nat → Int} {g : Nat} {u1 u2 : Value} (h : RSt x B b fr to ep N m nl l nw k g u1 u2) (hB : B' ≤ B) : RSt x B' b fr to ep N m nl l nw k g u1 u2 :=
  ⟨h.1, ⟨Nat.le_trans hB h.2.1.1, Nat.le_trans hB h.2.1.2.1, h.2.1.2.2.1, h.2.1.2.2.2.1, h.2.1.2.2.2.2.1.mono hB, h.2.1.2.2.2.2.2.mono hB⟩, h.2.2⟩
theorem ToldG.keptB {x x' : World} {B n : Nat} {F : Nat → Int} {S : Nat → Sto} {P : Nat → Nat} (h : ToldG x B n F S P) (hb : ∀ q, B ≤ q → q < x.heap.size → x'.heap[q]? = x.heap[q]?) : ToldG x' B n F S P := fun i hi => by
  obtain ⟨N, m, g, u1, u2, h1, h2, h3⟩ := h i hi
  exact ⟨N, m, g, u1, u2, h1, h2, h3.keptB hb⟩
theorem ToldG.later {x x' : World} {B n : Nat} {F : Nat → Int} {S : Nat → Sto} {P : Nat → Nat} (h : ToldG x B n F S P) (hb : Below x.heap.size x x') : ToldG x' B n F S P := h.keptB (fun q _ hq => hb.block q hq)
theorem ToldG.mono {x : World} {B B' n : Nat} {F : Nat → Int} {S : Nat → Sto} {P : Nat → Nat} (h : ToldG x B n F S P) (hB : B' ≤ B) : ToldG x B' n F S P := fun i hi => by
  obtain ⟨N, m, g, u1, u2, h1, h2, h3⟩ := h i hi
  exact ⟨N, m, g, u1, u2, h1, h2, h3.mono hB⟩
/-- One more store that is worked on. -/
theorem ToldG.put {x : World} {B k b : Nat} {F : Nat → Int} {S : Nat → Sto} {P : Nat → Nat} (h : ToldG x B k F S P) {fr to ep : Int} (hF : F (k * 3) = fr ∧ F (k * 3 + 1) = to ∧ F (k * 3 + 2) = ep) (hz : storeF (S k) = 0) {g : Nat} {u1 u2 : Value} (hr : RSt x B b fr to ep (S k).nc (cellM (S k) (S k).nc) (S k).nl (S k).l (S k).nw (S k).k g u1 u2) : ToldG x B (k + 1) F S (fun i => if i = k then b else P i) := fun i hi => by
  have Z := storeF_zero hz
  by_cases q : i = k
  · subst q
    simp only [if_pos]
    rw [hF.1, hF.2.1, hF.2.2]
    exact ⟨(S i).nc, cellM (S i) (S i).nc, g, u1, u2, ⟨by have := Z.1.1; omega, Z.1.2.1, Z.1.2.2⟩, mapSelf Z.2.1, hr⟩
  · simp only [if_neg q]
    exact h i (by omega)
/-- A new row of pointers, k of them laid. -/
def FillP (w : World) (g n k : Nat) (P : Nat → Nat) : Prop := g < w.heap.size ∧ (∀ p, p < n → (∃ u, w.cell? ⟨g, p, none⟩ = some u) ∧ w.frozen? ⟨g, p, none⟩ = false) ∧ ∀ i, i < k → w.cell? ⟨g, i, none⟩ = some (.pointer (some ⟨P i, 0, none⟩))
theorem FillP.later {w w' : World} {g n k : Nat} {P : Nat → Nat} (h : FillP w g n k P) (hb : Below w.heap.size w w') : FillP w' g n k P := by
  obtain ⟨h1, h2, h3⟩ := h
  refine ⟨Nat.lt_of_lt_of_le h1 hb.size, fun p hp => ⟨?_, (hb.frozen (p := ⟨g, p, none⟩) h1).trans (h2 p hp).2⟩, fun i hi => (hb.cell (p := ⟨g, i, none⟩) h1).trans (h3 i hi)⟩
  obtain ⟨u, hu⟩ := (h2 p hp).1
  exact ⟨u, (hb.cell (p := ⟨g, p, none⟩) h1).trans hu⟩
theorem FillP.made (w : World) (z : Array Value) (n : Nat) (e : TypeId) (P : Nat → Nat) : FillP (w.alloc (.cells (madeCells z n) e)) w.heap.size n 0 P := by
  refine ⟨by simp, fun p hp => ⟨⟨(madeCells z n)[p]'(by rw [size_madeCells]; omega), ?_⟩, by simp⟩, fun p hp => absurd hp (Nat.not_lt_zero p)⟩
  rw [World.cell?_alloc_mark]
  simp
theorem FillP.at {w : World} {g n k p : Nat} {P : Nat → Nat} (h : FillP w g n k P) (hp : p < n) : ∃ u, w.cell? ⟨g, p, none⟩ = some u ∧ w.frozen? ⟨g, p, none⟩ = false := by
  obtain ⟨⟨u, hu⟩, hf⟩ := h.2.1 p hp
  exact ⟨u, hu, hf⟩
theorem FillP.put {w : World} {g n k : Nat} {P : Nat → Nat} (h : FillP w g n k P) (hk : k < n) (b : Nat) : FillP (w.setCell ⟨g, k, none⟩ (.pointer (some ⟨b, 0, none⟩))) g n (k + 1) (fun i => if i = k then b else P i) := by
  obtain ⟨h1, h2, h3⟩ := h
  obtain ⟨u, hu⟩ := (h2 k hk).1
  refine ⟨by simpa [World.setCell] using h1, fun p hp => ⟨?_, by simp [(h2 p hp).2]⟩, fun i hi => ?_⟩
  · obtain ⟨v, hv⟩ := (h2 p hp).1
    by_cases q : p = k
    · subst q
      exact ⟨_, World.cell?_setCell_same _ _ _ hu⟩
    · exact ⟨v, by rw [World.cell?_setCell_other _ _ _ _ (by intro e; simp at e; first | done | omega)]; exact hv⟩
  · by_cases q : i = k
    · subst q
      simp only [if_pos]
      exact World.cell?_setCell_same _ _ _ hu
    · simp only [if_neg q]
      rw [World.cell?_setCell_other _ _ _ _ (by intro e; simp at e; first | done | omega)]
      exact h3 i (by omega)
theorem info_Ptr : (Tryz.prog.info? 98).map (fun i => (i.zero, i.size, i.bytes)) = some (some (.pointer none), 1, 8) := by kernel_rfl
/-- What the region that points reads: the groups' box, the store's copy in block b, the range. -/
def PtaE (w : World) (vr vs : Value) (b : Nat) (s0 s1 s2 : Value) (gr oR k : Nat) (fr to ep : Int) (x : World) : Prop :=
  Blk2 x w.heap.size vr vs ∧ Blk3 x b s0 s1 s2 ∧ x.cell? ⟨gr, oR + k * 3, none⟩ = some (.int .i64 fr) ∧ x.cell? ⟨gr, oR + k * 3 + 1, none⟩ = some (.int .i64 to) ∧ x.cell? ⟨gr, oR + k * 3 + 2, none⟩ = some (.int .i64 ep)
theorem PtaE.kept {w x x' : World} {vr vs : Value} {b : Nat} {s0 s1 s2 : Value} {gr oR k : Nat} {fr to ep : Int} (h : PtaE w vr vs b s0 s1 s2 gr oR k fr to ep x) (hb : ∀ q, q = w.heap.size ∨ q = b ∨ q = gr → x'.heap[q]? = x.heap[q]?) : PtaE w vr vs b s0 s1 s2 gr oR k fr to ep x' := by
  obtain ⟨h1, h2, h3, h4, h5⟩ := h
  have e := hb gr (Or.inr (Or.inr rfl))
  exact ⟨h1.kept (hb _ (Or.inl rfl)), h2.kept (hb _ (Or.inr (Or.inl rfl))), (World.cell?_of_block (w := x) (a := ⟨gr, oR + k * 3, none⟩) e).trans h3, (World.cell?_of_block (w := x) (a := ⟨gr, oR + k * 3 + 1, none⟩) e).trans h4, (World.cell?_of_block (w := x) (a := ⟨gr, oR + k * 3 + 2, none⟩) e).trans h5⟩
/-- Where the row of pointers stands, k of them laid. -/
def PtaT (w : World) (vr vs : Value) (n k : Nat) (F : Nat → Int) (S : Nat → Sto) (x : World) : Prop :=
  (Below w.heap.size w x ∧ Blk2 x w.heap.size vr vs) ∧ ∃ P, FillP x (w.heap.size + 1) n k P ∧ ToldG x (w.heap.size + 2) k F S P
set_option maxRecDepth 100000 in
set_option maxHeartbeats 8000000 in
theorem pointToAll_is (nr : Nat) (F : Nat → Int) (n : Nat) (S : Nat → Sto) (V : Nat → Nat → Value) (vr vs : Value) (B : Nat) (w : World) (h : Grs w B nr F n S V vr vs) (hz : ∀ i, i < n → storeF (S i) = 0) (hn : n = nr) (hm : n ≤ 12) :
    Calls Tryz.prog 21 #[.agg #[vr, vs]] w fun e w' => ∃ g P, e = .returned (.slice (some ⟨g, 0, none⟩) n n) ∧ PtrRow w' n (some ⟨g, 0, none⟩) P ∧ ToldG w' w.heap.size n F S P ∧ Below w.heap.size w w' := by
  obtain ⟨a0, c0, a1, c1, rfl, rfl⟩ := h.form
  have HG : Hid (Grs w B nr F n S V (.slice a0 nr c0) (.slice a1 n c1)) := h
  have HZ : Hid (∀ i, i < n → storeF (S i) = 0) := hz
  have HM : Hid (n = nr) := hn
  clear h hz hn
  have hmk := make_row Tryz.underlying62 info_Ptr n (by omega) (by omega)
  have b0 : Hid (Blk2 (w.alloc (.cells #[.slice a0 nr c0, .slice a1 n c1] 27)) w.heap.size (.slice a0 nr c0) (.slice a1 n c1)) := Blk2.new w (.slice a0 nr c0) (.slice a1 n c1) 27
  obtain ⟨⟨p0, p1⟩, _⟩ := b0.out
  have q0 := (b0.out.alloc (.cells (madeCells #[Value.pointer none] n) 98)).1
  obtain ⟨q0, q1⟩ := q0
  go_enter Tryz.func21, Tryz.ntmps21
  go_wp2
  go_loopw [13] (fun i wr => ∃ k : Nat, k ≤ n ∧ i = .int .i64 k ∧ Hid (PtaT w (.slice a0 nr c0) (.slice a1 n c1) n k F S wr)) (fun i _ => n - (intOf i).toNat)
  case atStart =>
    refine ⟨0, Nat.zero_le _, rfl, ⟨(below_alloc _ _).alloc (by simp) _, b0.out.alloc _⟩, fun _ => 0, ?_, fun i hi => absurd hi (Nat.not_lt_zero i)⟩
    have := FillP.made (w.alloc (.cells #[.slice a0 nr c0, .slice a1 n c1] 27)) #[Value.pointer none] n 98 (fun _ => 0)
    rwa [World.size_alloc] at this
  case round =>
    obtain ⟨k, hk, rfl, hR⟩ := hrel
    by_cases hlt : k < n
    · have hkr : k < nr := by have := HM.out; omega
      obtain ⟨g, o, rfl, _, hg, ⟨b0', b1', b2'⟩, sk⟩ := HG.out.2.at hlt
      obtain ⟨gr, oR, rfl, _, hgr, t0, t1, t2⟩ := HG.out.1.at3 hkr
      obtain ⟨i0', d0', i1', d1', i2', d2', e0', e1', e2'⟩ := sk.form
      rw [e0'] at b0'
      rw [e1'] at b1'
      rw [e2'] at b2'
      rw [e0', e1', e2'] at sk
      obtain ⟨fr, hfr⟩ : ∃ x, F (k * 3) = x := ⟨_, rfl⟩
      obtain ⟨to, hto⟩ : ∃ x, F (k * 3 + 1) = x := ⟨_, rfl⟩
      obtain ⟨ep, hep⟩ : ∃ x, F (k * 3 + 2) = x := ⟨_, rfl⟩
      rw [hfr] at t0
      rw [hto] at t1
      rw [hep] at t2
      have HF : Hid (F (k * 3) = fr ∧ F (k * 3 + 1) = to ∧ F (k * 3 + 2) = ep) := ⟨hfr, hto, hep⟩
      have y0 := (hR.out.1.1.cell (p := ⟨g, o + k * 3, none⟩) hg).trans b0'
      have y1 := (hR.out.1.1.cell (p := ⟨g, o + k * 3 + 1, none⟩) hg).trans b1'
      have y2 := (hR.out.1.1.cell (p := ⟨g, o + k * 3 + 2, none⟩) hg).trans b2'
      have x0 := (hR.out.1.1.cell (p := ⟨gr, oR + k * 3, none⟩) hgr).trans t0
      have x1 := (hR.out.1.1.cell (p := ⟨gr, oR + k * 3 + 1, none⟩) hgr).trans t1
      have x2 := (hR.out.1.1.cell (p := ⟨gr, oR + k * 3 + 2, none⟩) hgr).trans t2
      obtain ⟨n0, hn0⟩ : ∃ x, (S k).nc = x := ⟨_, rfl⟩
      obtain ⟨n1, hn1⟩ : ∃ x, (S k).nl = x := ⟨_, rfl⟩
      obtain ⟨n2, hn2⟩ : ∃ x, (S k).nw = x := ⟨_, rfl⟩
      rw [hn0] at y0
      rw [hn1] at y1
      rw [hn2] at y2
      rw [hn0, hn1, hn2] at sk
      have SK : Hid (St wr B (S k) (.slice i0' n0 d0') (.slice i1' n1 d1') (.slice i2' n2 d2')) := sk.later hR.out.1.1
      clear hfr hto hep sk e0' e1' e2' b0' b1' b2' t0 t1 t2 hn0 hn1 hn2
      have zz : Hid (w.heap.size + 2 ≤ wr.heap.size) := by obtain ⟨_, P, hF, _⟩ := hR.out; have := hF.1; unfold Hid; omega
      have ZW : Hid (gr < w.heap.size) := hgr
      have HS0 : Hid (PtaE w (.slice (some ⟨gr, oR, none⟩) nr c0) (.slice (some ⟨g, o, none⟩) n c1) wr.heap.size (.slice i0' n0 d0') (.slice i1' n1 d1') (.slice i2' n2 d2') gr oR k fr to ep (wr.alloc (.cells #[.slice i0' n0 d0', .slice i1' n1 d1', .slice i2' n2 d2'] 37))) := ⟨hR.out.1.2.alloc _, Blk3.new wr _ _ _ _, ((below_alloc wr _).cell (p := ⟨gr, oR + k * 3, none⟩) (by show gr < wr.heap.size; have := zz.out; have := ZW.out; omega)).trans x0, ((below_alloc wr _).cell (p := ⟨gr, oR + k * 3 + 1, none⟩) (by show gr < wr.heap.size; have := zz.out; have := ZW.out; omega)).trans x1, ((below_alloc wr _).cell (p := ⟨gr, oR + k * 3 + 2, none⟩) (by show gr < wr.heap.size; have := zz.out; have := ZW.out; omega)).trans x2⟩
      clear x0 x1 x2 hg hgr p0 p1 q0 q1 hmk
      go_upto_region 5 with fail
      refine wp_region_held_drew (S := PtaE w (.slice (some ⟨gr, oR, none⟩) nr c0) (.slice (some ⟨g, o, none⟩) n c1) wr.heap.size (.slice i0' n0 d0') (.slice i1' n1 d1') (.slice i2' n2 d2') gr oR k fr to ep) (by kernel_rfl) (HS0.out.kept (fun _ _ => rfl)) (fun hS => ?_)
      clear y0 y1 y2
      refine wpAnyH_take (i := 0) (v := ?_) rfl (by kernel_rfl) (by kernel_rfl) (by kernel_rfl) (fun _ _ _ h => h) (Or.inl ⟨by kernel_rfl, ?_⟩) hS ?_
      rotate_left
      · intro wx hx
        obtain ⟨⟨⟨hx0, hx1⟩, _⟩, ⟨⟨hx2, hx3, hx4⟩, _⟩, hx5, hx6, hx7⟩ := hx
        go_simp
        try with_reducible rfl
      refine wpAnyH_take (i := 1) (v := ?_) rfl (by kernel_rfl) (by kernel_rfl) (by kernel_rfl) (fun _ _ _ h => h) (Or.inl ⟨by kernel_rfl, ?_⟩) hS ?_
      rotate_left
      · intro wx hx
        obtain ⟨⟨⟨hx0, hx1⟩, _⟩, ⟨⟨hx2, hx3, hx4⟩, _⟩, hx5, hx6, hx7⟩ := hx
        go_simp
        try with_reducible rfl
      refine wpAnyH_take (i := 2) (v := ?_) rfl (by kernel_rfl) (by kernel_rfl) (by kernel_rfl) (fun _ _ _ h => h) (Or.inl ⟨by kernel_rfl, ?_⟩) hS ?_
      rotate_left
      · intro wx hx
        obtain ⟨⟨⟨hx0, hx1⟩, _⟩, ⟨⟨hx2, hx3, hx4⟩, _⟩, hx5, hx6, hx7⟩ := hx
        go_simp
        try with_reducible rfl
      refine wpAnyH_take (i := 3) (v := ?_) rfl (by kernel_rfl) (by kernel_rfl) (by kernel_rfl) (fun _ _ _ h => h) (Or.inl ⟨by kernel_rfl, ?_⟩) hS ?_
      rotate_left
      · intro wx hx
        obtain ⟨⟨⟨hx0, hx1⟩, _⟩, ⟨⟨hx2, hx3, hx4⟩, _⟩, hx5, hx6, hx7⟩ := hx
        go_simp
        try with_reducible rfl
      refine wpAnyH_take (i := 4) (v := ?_) rfl (by kernel_rfl) (by kernel_rfl) (by kernel_rfl) (fun _ _ _ h => h) (Or.inl ⟨by kernel_rfl, ?_⟩) hS ?_
      rotate_left
      · intro wx hx
        obtain ⟨⟨⟨hx0, hx1⟩, _⟩, ⟨⟨hx2, hx3, hx4⟩, _⟩, hx5, hx6, hx7⟩ := hx
        go_simp
        try with_reducible rfl
      refine wpAnyH_take (i := 5) (v := ?_) rfl (by kernel_rfl) (by kernel_rfl) (by kernel_rfl) (fun _ _ _ h => h) (Or.inl ⟨by kernel_rfl, ?_⟩) hS ?_
      rotate_left
      · intro wx hx
        obtain ⟨⟨⟨hx0, hx1⟩, _⟩, ⟨⟨hx2, hx3, hx4⟩, _⟩, hx5, hx6, hx7⟩ := hx
        go_simp
        try with_reducible rfl
      refine wpAnyH_take (i := 6) (v := ?_) rfl (by kernel_rfl) (by kernel_rfl) (by kernel_rfl) (fun _ _ _ h => h) (Or.inl ⟨by kernel_rfl, ?_⟩) hS ?_
      rotate_left
      · intro wx hx
        obtain ⟨⟨⟨hx0, hx1⟩, _⟩, ⟨⟨hx2, hx3, hx4⟩, _⟩, hx5, hx6, hx7⟩ := hx
        go_simp
        try with_reducible rfl
      refine wpAnyH_take (i := 7) (v := ?_) rfl (by kernel_rfl) (by kernel_rfl) (by kernel_rfl) (fun _ _ _ h => h) (Or.inl ⟨by kernel_rfl, ?_⟩) hS ?_
      rotate_left
      · intro wx hx
        obtain ⟨⟨⟨hx0, hx1⟩, _⟩, ⟨⟨hx2, hx3, hx4⟩, _⟩, hx5, hx6, hx7⟩ := hx
        go_simp
        try with_reducible rfl
      refine wpAnyH_ready (rs := [8]) (by kernel_rfl) (by simp) ?_
      refine AllReadyH.cons rfl (fun K hK => ?_) AllReadyH.nil
      go_simp
      go_wp2_with fail
      refine (pointTo_is (S k) _ _ _ fr to ep B _ (SK.out.later ((below_alloc _ _).drew)) (HZ.out k hlt)).mono ?_
      rintro e w4 ⟨b, gm, u1, u2, rfl, hRS, q4⟩
      have q4' : Below wr.heap.size wr w4 := (below_alloc wr _).trans (Below.mono ⟨q4.os, q4.tape, q4.output, q4.size, q4.block⟩ (by simp))
      have z4 : Hid (wr.heap.size ≤ w4.heap.size) := q4'.size
      have RS : Hid (RSt w4 (w.heap.size + 2) b fr to ep (S k).nc (cellM (S k) (S k).nc) (S k).nl (S k).l (S k).nw (S k).k gm u1 u2) := hRS.mono (by have := zz.out; simp; omega)
      have R4 : Hid ((Below w.heap.size w w4 ∧ Blk2 w4 w.heap.size (.slice (some ⟨gr, oR, none⟩) nr c0) (.slice (some ⟨g, o, none⟩) n c1)) ∧ ∃ P, FillP w4 (w.heap.size + 1) n k P ∧ ToldG w4 (w.heap.size + 2) k F S P) := by
        obtain ⟨⟨h1, h2⟩, P, h3, h4⟩ := hR.out
        exact ⟨⟨h1.trans (q4'.mono h1.size), h2.later q4'⟩, P, h3.later q4', h4.later q4'⟩
      have hS' := hS.kept (x' := w4) (fun q hq => q4.block q (by have := zz.out; have := ZW.out; simp; rcases hq with e | e | e <;> omega))
      clear q4 q4' hRS hR HS0 SK
      go_wp2_with fail
      refine hK.out _ _ hS' (fun hS => ?_)
      clear hK K hS'
      refine wpAnyH_take (i := 9) (v := ?_) rfl (by kernel_rfl) (by kernel_rfl) (by kernel_rfl) (fun _ _ _ h => h) (Or.inl ⟨by kernel_rfl, ?_⟩) hS ?_
      rotate_left
      · intro wx hx
        obtain ⟨⟨⟨hx0, hx1⟩, _⟩, ⟨⟨hx2, hx3, hx4⟩, _⟩, hx5, hx6, hx7⟩ := hx
        go_simp
        try with_reducible rfl
      obtain ⟨⟨h1, h2⟩, P, h3, h4⟩ := R4.out
      obtain ⟨ux, x0, x1⟩ := h3.at hlt
      have R5 : Hid (PtaT w (.slice (some ⟨gr, oR, none⟩) nr c0) (.slice (some ⟨g, o, none⟩) n c1) n (k + 1) F S (w4.setCell ⟨w.heap.size + 1, k, none⟩ (.pointer (some ⟨b, 0, none⟩)))) := ⟨⟨h1.setCell (Nat.le_succ _) _, h2.kept (Below.heap_setCell _ _ _ _ (by show w.heap.size ≠ w.heap.size + 1; omega))⟩, _, h3.put hlt b, (h4.put HF.out (HZ.out k hlt) RS.out).keptB (fun q hq _ => Below.heap_setCell _ _ _ q (by show q ≠ w.heap.size + 1; omega))⟩
      clear h1 h2 h3 h4 R4 RS
      refine wpAnyH_ready (rs := [10]) (by kernel_rfl) (by simp) ?_
      refine AllReadyH.cons rfl (fun K hK => ?_) AllReadyH.nil
      go_simp
      have hS' := hS.kept (x' := w4.setCell ⟨w.heap.size + 1, k, none⟩ (.pointer (some ⟨b, 0, none⟩))) (fun q hq => Below.heap_setCell _ _ _ q (by show q ≠ w.heap.size + 1; have := zz.out; have := ZW.out; rcases hq with e | e | e <;> omega))
      refine hK.out _ _ hS' (fun hS => ?_)
      clear hK K hS'
      refine wpAnyH_done (by kernel_rfl) ?_ _
      clear hS x0 x1
      go_simp
      generalize w4.setCell ⟨w.heap.size + 1, k, none⟩ (.pointer (some ⟨b, 0, none⟩)) = x4 at R5 ⊢
      go_wp2
      go_roundw
      case rel => exact ⟨k + 1, by omega, by go_num, R5⟩
      case measure => simp [intOf]; omega
    · obtain rfl : k = n := by omega
      go_wp2
      go_ret
      obtain ⟨⟨hB, _⟩, P, hF, hT⟩ := hR.out
      exact ⟨w.heap.size + 1, P, rfl, fun _ => ⟨_, _, rfl, hF.1, fun i hi => by rw [Nat.zero_add]; exact hF.2.2 i hi⟩, hT.mono (by omega), hB⟩
end

section
open Go.RowKit Go.Maps
-- Own text. PutStore, the program's side: a clone of the row of stores, one store put into it.
theorem listU_inv {V : Nat → Nat → Value} {n j : Nat} {u : Value} (h : (listU V n)[j]? = some u) : ∃ i r, i < n ∧ r < 3 ∧ j = i * 3 + r ∧ u = V i r := by
  have hj : j < n * 3 := by
    have := (List.getElem?_eq_some_iff.1 h).1
    rw [listU_len] at this
    exact this
  obtain ⟨h0, h1, h2⟩ := listU_at V n (j / 3) (by omega)
  have e : j = j / 3 * 3 + j % 3 := by omega
  have hr : j % 3 = 0 ∨ j % 3 = 1 ∨ j % 3 = 2 := by omega
  rcases hr with r | r | r
  · refine ⟨j / 3, 0, by omega, by omega, by omega, ?_⟩
    rw [show j / 3 * 3 = j by omega, h] at h0
    exact Option.some.inj h0
  · refine ⟨j / 3, 1, by omega, by omega, by omega, ?_⟩
    rw [show j / 3 * 3 + 1 = j by omega, h] at h1
    exact Option.some.inj h1
  · refine ⟨j / 3, 2, by omega, by omega, by omega, ?_⟩
    rw [show j / 3 * 3 + 2 = j by omega, h] at h2
    exact Option.some.inj h2
theorem St.slices {w : World} {B : Nat} {S : Sto} {u0 u1 u2 : Value} (h : St w B S u0 u1 u2) : u0.oneCell' = true ∧ u1.oneCell' = true ∧ u2.oneCell' = true := by
  obtain ⟨a0, c0, a1, c1, a2, c2, rfl, rfl, rfl⟩ := h.form
  exact ⟨rfl, rfl, rfl⟩
theorem Stos.one {w : World} {B n : Nat} {S : Nat → Sto} {V : Nat → Nat → Value} {v : Value} (h : Stos w B n S V v) : ∀ u ∈ listU V n, u.oneCell' = true := fun u hu => by
  obtain ⟨j, hj⟩ := List.getElem?_of_mem hu
  obtain ⟨i, r, hi, hr, _, rfl⟩ := listU_inv hj
  obtain ⟨h0, h1, h2⟩ := (h.2 i hi).slices
  have hr : r = 0 ∨ r = 1 ∨ r = 2 := by omega
  rcases hr with rfl | rfl | rfl
  · exact h0
  · exact h1
  · exact h2
theorem Stos.cells {w : World} {B n : Nat} {S : Nat → Sto} {V : Nat → Nat → Value} {a : Addr} {cp : Nat} (h : Stos w B n S V (.slice (some a) n cp)) : ∀ j u, (listU V n)[j]? = some u → w.cell? (a.add j) = some u := fun j u hu => by
  obtain ⟨i, r, hi, hr, rfl, rfl⟩ := listU_inv hu
  obtain ⟨ao, cp', hv, h'⟩ := h.1
  obtain ⟨g, o, rfl, _, _, hc⟩ := h' (by omega)
  simp only [Value.slice.injEq, Option.some.injEq] at hv
  obtain ⟨rfl, _⟩ := hv
  rw [WideShapes.add_plain]
  obtain ⟨h0, h1, h2⟩ := hc i hi
  have hr : r = 0 ∨ r = 1 ∨ r = 2 := by omega
  rcases hr with rfl | rfl | rfl
  · exact h0
  · rw [← Nat.add_assoc]; exact h1
  · rw [← Nat.add_assoc]; exact h2
def PutAns (nr : Nat) (F : Nat → Int) (n : Nat) (S : Nat → Sto) (pl : Int) (T : Sto) (c : Int) (nr' : Nat) (F' : Nat → Int) (n' : Nat) (R : Nat → Sto) : Prop :=
  ((groupsF nr F n S ≠ 0 ∧ c = groupsF nr F n S ∨ groupsF nr F n S = 0 ∧ ¬ (0 ≤ pl ∧ pl < n) ∧ c = 3 ∨ groupsF nr F n S = 0 ∧ ∃ j : Nat, pl = j ∧ j < n ∧ groupsF nr F n (putT S j T) ≠ 0 ∧ c = groupsF nr F n (putT S j T)) ∧ nr' = 0 ∧ n' = 0) ∨
  (groupsF nr F n S = 0 ∧ ∃ j : Nat, pl = j ∧ j < n ∧ groupsF nr F n (putT S j T) = 0 ∧ c = 0 ∧ nr' = nr ∧ F' = F ∧ n' = n ∧ R = putT S j T)
def CallP (w : World) (vr vs t0 t1 t2 : Value) (x : World) : Prop := Blk2 x w.heap.size vr vs ∧ Blk3 x (w.heap.size + 1) t0 t1 t2 ∧ Blk3 x (w.heap.size + 2) (.int .i64 0) (.slice none 0 0) (.slice none 0 0) ∧ Below w.heap.size w x
theorem CallP.kept {w x x' : World} {vr vs t0 t1 t2 : Value} (h : CallP w vr vs t0 t1 t2 x) (hb : Below (w.heap.size + 3) x x') : CallP w vr vs t0 t1 t2 x' :=
  ⟨h.1.kept (hb.block _ (by omega)), h.2.1.kept (hb.block _ (by omega)), h.2.2.1.kept (hb.block _ (by omega)), h.2.2.2.trans (hb.mono (by omega))⟩
theorem CallP.sz {w x : World} {vr vs t0 t1 t2 : Value} (h : CallP w vr vs t0 t1 t2 x) : w.heap.size + 3 ≤ x.heap.size := h.2.2.1.lt
theorem CallP.later {w x x' : World} {vr vs t0 t1 t2 : Value} (h : CallP w vr vs t0 t1 t2 x) (hb : Below x.heap.size x x') : CallP w vr vs t0 t1 t2 x' := h.kept (hb.mono h.sz)
theorem CallP.new (w : World) (vr vs t0 t1 t2 : Value) (t t' t'' : TypeId) : CallP w vr vs t0 t1 t2 (((w.alloc (.cells #[vr, vs] t)).alloc (.cells #[t0, t1, t2] t')).alloc (.cells #[.int .i64 0, .slice none 0 0, .slice none 0 0] t'')) := by
  refine ⟨((Blk2.new _ _ _ _).alloc _).alloc _, ?_, ?_, ((below_alloc _ _).alloc (by simp) _).alloc (by simp; omega) _⟩
  · have := Blk3.new (w.alloc (.cells #[vr, vs] t)) t0 t1 t2 t'
    rw [World.size_alloc] at this
    exact this.alloc _
  · have := Blk3.new ((w.alloc (.cells #[vr, vs] t)).alloc (.cells #[t0, t1, t2] t')) (.int .i64 0) (.slice none 0 0) (.slice none 0 0) t''
    rw [World.size_alloc, World.size_alloc] at this
    exact this
end

section
open Go.RowKit Go.Maps
-- Own text. What the model's l7Copy answers: the groups once more, in new memory.
/-- Groups that are copied: k stores are laid; the groups under way lie in block bo, the ranges below it, all else behind it. -/
structure CopT (w : World) (vr vs : Value) (nr : Nat) (F : Nat → Int) (xr : Value) (bo : Nat) (S : Nat → Sto) (x : World) (k : Nat) (U : Nat → Nat → Value) (vS : Value) : Prop where
  below : Below w.heap.size w x
  box : Blk2 x w.heap.size vr vs
  res : Blk2 x (w.heap.size + 1) (.slice none 0 0) (.slice none 0 0)
  blk : Blk2 x bo xr vS
  lo : w.heap.size + 2 ≤ bo
  rr : Row x (w.heap.size + 2) 3 nr F xr
  rb : 0 < nr → ∀ q, xr.ownBlock = some q → q < bo
  rs : OwnV x (bo + 1) vS k U
  st : ∀ i, i < k → St x (bo + 1) (S i) (U i 0) (U i 1) (U i 2)
  sp : ∀ q, vS.ownBlock = some q → Spare k S U q
theorem CopT.later {w x x' : World} {vr vs : Value} {nr : Nat} {F : Nat → Int} {xr : Value} {bo : Nat} {S : Nat → Sto} {k : Nat} {U : Nat → Nat → Value} {vS : Value} (h : CopT w vr vs nr F xr bo S x k U vS) (hb : Below x.heap.size x x') : CopT w vr vs nr F xr bo S x' k U vS :=
  ⟨h.below.trans (hb.mono h.below.size), h.box.later hb, h.res.later hb, h.blk.later hb, h.lo, h.rr.later hb, h.rb, h.rs.later hb, fun i hi => (h.st i hi).later hb, h.sp⟩
theorem St.farO {x : World} {B : Nat} {S : Sto} {u0 u1 u2 : Value} (h : St x B S u0 u1 u2) {b j : Nat} (hb : b < B) (u : Value) : St (x.setCell ⟨b, j, none⟩ u) B S u0 u1 u2 := h.within (within_set x b j u) (h.ownIn.mono (fun k hk => Or.inr (by omega)))
theorem CopT.put {w x y : World} {vr vs : Value} {nr : Nat} {F : Nat → Int} {xr : Value} {bo : Nat} {S : Nat → Sto} {k : Nat} {U : Nat → Nat → Value} {vS u u0 u1 u2 : Value} {zz : Nat} (h : CopT w vr vs nr F xr bo S x k U vS) (hk : St x zz (S k) u0 u1 u2) (hz : bo + 1 ≤ zz) (hs0 : ∀ q, vS.ownBlock = some q → q < zz) (ho : OwnV y (bo + 1) u (k + 1) (putU U k u0 u1 u2)) (hg : x.grownBy y vS.ownBlock) (hat : u.ownBlock = vS.ownBlock ∨ u.ownBlock = some x.heap.size) : CopT w vr vs nr F xr bo S (y.setCell ⟨bo, 1, none⟩ u) (k + 1) (putU U k u0 u1 u2) u := by
  have nb : ∀ b, b < bo + 1 → vS.ownBlock ≠ some b := fun b hb e => by have := (h.rs.block b e).1; omega
  have hlo := h.lo
  have bel : Below w.heap.size w y := ⟨hg.os.trans h.below.os, hg.tape.trans h.below.tape, hg.output.trans h.below.output, Nat.le_trans h.below.size hg.size, fun i hi => (hg.block i (Nat.lt_of_lt_of_le hi h.below.size) (fun e => nb i (by omega) e.symm)).trans (h.below.block i hi)⟩
  have stx : ∀ i, i < k + 1 → St x (bo + 1) (S i) (putU U k u0 u1 u2 i 0) (putU U k u0 u1 u2 i 1) (putU U k u0 u1 u2 i 2) := fun i hi => by
    by_cases e : i = k
    · subst e
      simp only [putU, if_true]
      exact hk.mono hz
    · simp only [putU, if_neg e]
      exact h.st i (by omega)
  have spx : ∀ q, vS.ownBlock = some q → Spare (k + 1) S (putU U k u0 u1 u2) q := fun q hq i hi => by
    by_cases e : i = k
    · subst e
      simp only [putU, if_true]
      exact hk.ownIn.mono (fun p hp => by have := hs0 q hq; omega)
    · have := h.sp q hq i (by omega)
      simp only [putU, if_neg e]
      exact this
  refine ⟨bel.setCell (by show w.heap.size ≤ bo; omega) _, (blk2_past h.box hg (nb _ (by omega))).setFar (by show w.heap.size ≠ bo; omega) _, (blk2_past h.res hg (nb _ (by omega))).setFar (by show w.heap.size + 1 ≠ bo; omega) _, (blk2_past h.blk hg (nb _ (by omega))).set1 _, hlo, ?_, h.rb, ho.far (Nat.lt_succ_self _) _, fun i hi => ?_, fun q hq => ?_⟩
  · have r1 := h.rr.turned hg (fun hp q hq e => nb q (by have := h.rb hp q hq; omega) e.symm)
    exact r1.within (within_set y bo 1 u) (fun hp q hq => Or.inl (h.rb hp q hq))
  · obtain ⟨s0, s1, s2⟩ := stx i hi
    have hs : St y (bo + 1) (S i) (putU U k u0 u1 u2 i 0) (putU U k u0 u1 u2 i 1) (putU U k u0 u1 u2 i 2) := ⟨s0.turned hg (fun hp q hq e => (spx q e.symm i hi).1 hp q hq rfl), s1.turned hg (fun hp q hq e => (spx q e.symm i hi).2.1 hp q hq rfl), s2.turned hg (fun hp q hq e => (spx q e.symm i hi).2.2 hp q hq rfl)⟩
    exact hs.farO (Nat.lt_succ_self _) _
  · rcases hat with e | e
    · exact spx q (e ▸ hq)
    · rw [e] at hq
      simp at hq
      intro i hi
      exact (stx i hi).ownIn.mono (fun p hp => by omega)
/-- What the copying region reads: the groups' box and the store. -/
def CopE (w : World) (vr vs : Value) (g o k : Nat) (s0 s1 s2 : Value) (x : World) : Prop :=
  Blk2 x w.heap.size vr vs ∧ x.cell? ⟨g, o + k * 3, none⟩ = some s0 ∧ x.cell? ⟨g, o + k * 3 + 1, none⟩ = some s1 ∧ x.cell? ⟨g, o + k * 3 + 2, none⟩ = some s2
theorem CopE.kept {w x x' : World} {vr vs : Value} {g o k : Nat} {s0 s1 s2 : Value} (h : CopE w vr vs g o k s0 s1 s2 x) (hb : ∀ q, q = w.heap.size ∨ q = g → x'.heap[q]? = x.heap[q]?) : CopE w vr vs g o k s0 s1 s2 x' := by
  obtain ⟨h1, h3, h4, h5⟩ := h
  have e := hb g (Or.inr rfl)
  exact ⟨h1.kept (hb _ (Or.inl rfl)), (World.cell?_of_block (w := x) (a := ⟨g, o + k * 3, none⟩) e).trans h3, (World.cell?_of_block (w := x) (a := ⟨g, o + k * 3 + 1, none⟩) e).trans h4, (World.cell?_of_block (w := x) (a := ⟨g, o + k * 3 + 2, none⟩) e).trans h5⟩
set_option maxRecDepth 100000 in
set_option maxHeartbeats 16000000 in
theorem l7Copy_is (nr : Nat) (F : Nat → Int) (n : Nat) (S : Nat → Sto) (V : Nat → Nat → Value) (vr vs : Value) (B : Nat) (w : World) (h : Grs w B nr F n S V vr vs) (hr : 0 < nr ∧ nr ≤ 12) (hn : n ≤ 12) (hs : ∀ i, i < n → (S i).nc ≤ 1048576 ∧ (S i).nl ≤ 1048576 ∧ (S i).nw ≤ 1048576) :
    Calls Tryz.prog 26 #[.agg #[vr, vs]] w fun e w' => ∃ xr vS U, e = .returned (.agg #[xr, vS]) ∧ (Row w' w.heap.size 3 nr F xr ∧ OwnV w' w.heap.size vS n U ∧ (∀ i, i < n → St w' w.heap.size (S i) (U i 0) (U i 1) (U i 2)) ∧ (∀ q, vS.ownBlock = some q → Spare n S U q ∧ xr.ownBlock ≠ some q)) ∧ Below w.heap.size w w' := by
  obtain ⟨a0, c0, a1, c1, rfl, rfl⟩ := h.form
  have HG : Hid (Grs w B nr F n S V (.slice a0 nr c0) (.slice a1 n c1)) := h
  have HS : Hid (∀ i, i < n → (S i).nc ≤ 1048576 ∧ (S i).nl ≤ 1048576 ∧ (S i).nw ≤ 1048576) := hs
  clear h hs
  obtain ⟨ad, rfl⟩ : ∃ a, a0 = some a := by
    obtain ⟨ao, cp, hv, h'⟩ := HG.out.1
    obtain ⟨g, o, rfl, _⟩ := h' hr.1
    simp only [Value.slice.injEq] at hv
    exact ⟨_, hv.1⟩
  obtain ⟨i0, hi, hz0, hz1, hz2⟩ := info_parts info_Range
  obtain ⟨j0, gi, gz0, gz1, gz2⟩ := info_parts info_Store
  go_enter Tryz.func26, Tryz.ntmps26
  have OE : (((w.alloc (.cells #[.slice (some ad) nr c0, .slice a1 n c1] 27)).alloc (.cells #[.slice none 0 0, .slice none 0 0] 27)).alloc (.cells #[] 89)).ownsRow (w.heap.size + 2) 89 3 (.slice (some ⟨w.heap.size + 1 + 1, 0, none⟩) 0 0) 0 [] := by
    have := own_empty ((w.alloc (.cells #[.slice (some ad) nr c0, .slice a1 n c1] 27)).alloc (.cells #[.slice none 0 0, .slice none 0 0] 27)) 89 3
    rw [World.size_alloc, World.size_alloc] at this
    exact this
  have RC : ∀ j u, (vals F (nr * 3))[j]? = some u → (((w.alloc (.cells #[.slice (some ad) nr c0, .slice a1 n c1] 27)).alloc (.cells #[.slice none 0 0, .slice none 0 0] 27)).alloc (.cells #[] 89)).cell? (ad.add j) = some u := row_cells (((HG.out.1.alloc _).alloc _).alloc _)
  have b3 : Hid (Blk2 (((w.alloc (.cells #[.slice (some ad) nr c0, .slice a1 n c1] 27)).alloc (.cells #[.slice none 0 0, .slice none 0 0] 27)).alloc (.cells #[] 89)) w.heap.size (.slice (some ad) nr c0) (.slice a1 n c1)) := ((Blk2.new w _ _ _).alloc _).alloc _
  have b4 : Hid (Blk2 (((w.alloc (.cells #[.slice (some ad) nr c0, .slice a1 n c1] 27)).alloc (.cells #[.slice none 0 0, .slice none 0 0] 27)).alloc (.cells #[] 89)) (w.heap.size + 1) (.slice none 0 0) (.slice none 0 0)) := by
    have := Blk2.new (w.alloc (.cells #[.slice (some ad) nr c0, .slice a1 n c1] 27)) (.slice none 0 0) (.slice none 0 0) 27
    rw [World.size_alloc] at this
    exact this.alloc _
  have BW : Hid (Below w.heap.size w (((w.alloc (.cells #[.slice (some ad) nr c0, .slice a1 n c1] 27)).alloc (.cells #[.slice none 0 0, .slice none 0 0] 27)).alloc (.cells #[] 89)) ∧ (((w.alloc (.cells #[.slice (some ad) nr c0, .slice a1 n c1] 27)).alloc (.cells #[.slice none 0 0, .slice none 0 0] 27)).alloc (.cells #[] 89)).heap.size = w.heap.size + 3) := ⟨((below_alloc _ _).alloc (by simp) _).alloc (by simp; omega) _, by simp⟩
  obtain ⟨⟨p0, p1⟩, _⟩ := b3.out
  go_wp2_with (at_builtin; refine wpList_append_own _ rfl _ _ 24 rfl (w.heap.size + 2) 89 i0 (.agg #[.int .i64 0, .int .i64 0, .int .i64 0]) 3 24 Tryz.underlying24 hi hz0 hz1 hz2 rfl (by decide) _ 0 [] rfl OE ad nr c0 (vals F (nr * 3)) rfl (vals_length _ _) RC (vals_one _ _) ?c3 ?c4 ?c5 ?_)
  case c3 => unfold maxLen; omega
  case c4 => omega
  case c5 => simp
  intro xr w1 ho hg _
  have HO : Own w1 (w.heap.size + 2) 89 3 nr F xr := by simpa [Own] using ho
  obtain ⟨xa, xc, rfl⟩ := HO.form
  have nb : ∀ q, q < w.heap.size + 2 → (Value.slice (some ⟨w.heap.size + 1 + 1, 0, none⟩) 0 0).ownBlock ≠ some q := fun q hq e => by simp [Value.ownBlock] at e; omega
  have T0 : Hid (CopT w (.slice (some ad) nr c0) (.slice a1 n c1) nr F (.slice xa nr xc) w1.heap.size S (w1.alloc (.cells #[.slice xa nr xc, .slice none 0 0] 27)) 0 (fun _ _ => .bool true) (.slice none 0 0)) := by
    have hsz : w.heap.size + 3 ≤ w1.heap.size := by have := hg.size; rw [BW.out.2] at this; exact this
    refine ⟨(below_grownBy BW.out.1 (by rw [BW.out.2]; omega) (fun b hb => by simp [Value.ownBlock] at hb; omega) hg).alloc (by omega) _, (blk2_past b3.out hg (nb _ (by omega))).alloc _, (blk2_past b4.out hg (nb _ (by omega))).alloc _, Blk2.new _ _ _ _, by omega, HO.row.1.alloc _, fun hp q hq => (HO.row.1.lt hp q hq).2, ⟨rfl, Or.inl ⟨rfl, rfl⟩⟩, fun i hi => absurd hi (Nat.not_lt_zero i), fun q e => by cases e⟩
  clear ho hg HO nb p0 p1 b3 b4 OE RC BW
  go_upto_region 2 with fail
  generalize w1.alloc (.cells #[.slice xa nr xc, .slice none 0 0] 27) = x0 at T0 ⊢
  generalize w1.heap.size = bo at T0 ⊢
  obtain ⟨⟨p0, p1⟩, _⟩ := T0.out.box
  go_wp2
  go_loopw [4] (fun i wr => ∃ (k : Nat) (U : Nat → Nat → Value) (sa : Option Addr) (sc : Nat), k ≤ n ∧ i = .int .i64 k ∧ Hid (CopT w (.slice (some ad) nr c0) (.slice a1 n c1) nr F (.slice xa nr xc) bo S wr k U (.slice sa k sc))) (fun i _ => n - (intOf i).toNat)
  case atStart => exact ⟨0, _, none, 0, Nat.zero_le _, rfl, T0⟩
  case round =>
    obtain ⟨k, U, sa, sc, hk, rfl, TT⟩ := hrel
    clear p0 p1
    obtain ⟨⟨p0, p1⟩, _⟩ := TT.out.box
    by_cases hlt : k < n
    · obtain ⟨g, o, rfl, _, hg, ⟨b0', b1', b2'⟩, sk⟩ := HG.out.2.at hlt
      obtain ⟨i0', d0', i1', d1', i2', d2', e0', e1', e2'⟩ := sk.form
      rw [e0'] at b0'
      rw [e1'] at b1'
      rw [e2'] at b2'
      rw [e0', e1', e2'] at sk
      obtain ⟨n0, hn0⟩ : ∃ x, (S k).nc = x := ⟨_, rfl⟩
      obtain ⟨n1, hn1⟩ : ∃ x, (S k).nl = x := ⟨_, rfl⟩
      obtain ⟨n2, hn2⟩ : ∃ x, (S k).nw = x := ⟨_, rfl⟩
      have y0 := (TT.out.below.cell (p := ⟨g, o + k * 3, none⟩) hg).trans b0'
      have y1 := (TT.out.below.cell (p := ⟨g, o + k * 3 + 1, none⟩) hg).trans b1'
      have y2 := (TT.out.below.cell (p := ⟨g, o + k * 3 + 2, none⟩) hg).trans b2'
      rw [hn0] at y0
      rw [hn1] at y1
      rw [hn2] at y2
      rw [hn0, hn1, hn2] at sk
      have SK : Hid (St wr B (S k) (.slice i0' n0 d0') (.slice i1' n1 d1') (.slice i2' n2 d2')) := sk.later TT.out.below
      have ZG : Hid (g < w.heap.size) := hg
      have ZB : Hid (w.heap.size + 2 ≤ bo ∧ bo < wr.heap.size) := ⟨TT.out.lo, TT.out.blk.lt⟩
      have HS0 : Hid (CopE w (.slice (some ad) nr c0) (.slice (some ⟨g, o, none⟩) n c1) g o k (.slice i0' n0 d0') (.slice i1' n1 d1') (.slice i2' n2 d2') wr) := ⟨TT.out.box, y0, y1, y2⟩
      have G0 : wr.drew.cell? ⟨bo, 1, none⟩ = some (.slice sa k sc) := TT.out.blk.1.2
      clear sk e0' e1' e2' b0' b1' b2' hn0 hn1 hn2 y0 y1 y2 hg
      go_upto_region 5 with fail
      clear p0 p1
      refine wp_region_held_drew (S := CopE w (.slice (some ad) nr c0) (.slice (some ⟨g, o, none⟩) n c1) g o k (.slice i0' n0 d0') (.slice i1' n1 d1') (.slice i2' n2 d2')) (by kernel_rfl) (HS0.out.kept (fun _ _ => rfl)) (fun hS => ?_)
      clear HS0
      refine wpAnyH_take (i := 0) (v := ?_) rfl (by kernel_rfl) (by kernel_rfl) (by kernel_rfl) (fun _ _ _ h => h) (Or.inl ⟨by kernel_rfl, ?_⟩) hS ?_
      rotate_left
      · intro wx hx
        obtain ⟨⟨⟨hx0, hx1⟩, _⟩, hx2, hx3, hx4⟩ := hx
        go_simp
        try with_reducible rfl
      refine wpAnyH_take (i := 2) (v := ?_) rfl (by kernel_rfl) (by kernel_rfl) (by kernel_rfl) (fun _ _ _ h => h) (Or.inl ⟨by kernel_rfl, ?_⟩) hS ?_
      rotate_left
      · intro wx hx
        obtain ⟨⟨⟨hx0, hx1⟩, _⟩, hx2, hx3, hx4⟩ := hx
        go_simp
        try with_reducible rfl
      refine wpAnyH_take (i := 3) (v := ?_) rfl (by kernel_rfl) (by kernel_rfl) (by kernel_rfl) (fun _ _ _ h => h) (Or.inl ⟨by kernel_rfl, ?_⟩) hS ?_
      rotate_left
      · intro wx hx
        obtain ⟨⟨⟨hx0, hx1⟩, _⟩, hx2, hx3, hx4⟩ := hx
        go_simp
        try with_reducible rfl
      refine wpAnyH_take (i := 4) (v := ?_) rfl (by kernel_rfl) (by kernel_rfl) (by kernel_rfl) (fun _ _ _ h => h) (Or.inl ⟨by kernel_rfl, ?_⟩) hS ?_
      rotate_left
      · intro wx hx
        obtain ⟨⟨⟨hx0, hx1⟩, _⟩, hx2, hx3, hx4⟩ := hx
        go_simp
        try with_reducible rfl
      refine wpAnyH_take (i := 5) (v := ?_) rfl (by kernel_rfl) (by kernel_rfl) (by kernel_rfl) (fun _ _ _ h => h) (Or.inl ⟨by kernel_rfl, ?_⟩) hS ?_
      rotate_left
      · intro wx hx
        obtain ⟨⟨⟨hx0, hx1⟩, _⟩, hx2, hx3, hx4⟩ := hx
        go_simp
        try with_reducible rfl
      refine wpAnyH_take (i := 6) (v := ?_) rfl (by kernel_rfl) (by kernel_rfl) (by kernel_rfl) (fun _ _ _ h => h) (Or.inl ⟨by kernel_rfl, ?_⟩) hS ?_
      rotate_left
      · intro wx hx
        obtain ⟨⟨⟨hx0, hx1⟩, _⟩, hx2, hx3, hx4⟩ := hx
        go_simp
        try with_reducible rfl
      refine wpAnyH_ready (rs := [1, 7]) (by kernel_rfl) (by simp) ?_
      refine AllReadyH.cons rfl (fun K hK => ?_) (AllReadyH.cons rfl (fun K hK => ?_) AllReadyH.nil)
      · go_simp
        refine hK.out _ _ hS (fun hS => ?_)
        clear hK K
        refine wpAnyH_ready (rs := [7]) (by kernel_rfl) (by simp) ?_
        refine AllReadyH.cons rfl (fun K hK => ?_) AllReadyH.nil
        go_simp
        go_wp2_with fail
        refine (l2Copy_is (S k) _ _ _ B _ (SK.out.later (below_dr (Below.refl _ _) 1)) (HS.out k hlt)).mono ?_
        rintro e x2 ⟨d0, e0, d1, e1, d2, e2, rfl, ⟨s3, f3, a3⟩, q2⟩
        have q2' : Below wr.heap.size wr x2 := ⟨q2.os, q2.tape, q2.output, q2.size, q2.block⟩
        have TC : Hid (CopT w (.slice (some ad) nr c0) (.slice (some ⟨g, o, none⟩) n c1) nr F (.slice xa nr xc) bo S (x2.alloc (.cells #[.slice d0 (S k).nc e0, .slice d1 (S k).nl e1, .slice d2 (S k).nw e2] 37)) k U (.slice sa k sc)) := (TT.out.later q2').later (below_alloc _ _)
        have SC : Hid (St (x2.alloc (.cells #[.slice d0 (S k).nc e0, .slice d1 (S k).nl e1, .slice d2 (S k).nw e2] 37)) wr.heap.size (S k) (.slice d0 (S k).nc e0) (.slice d1 (S k).nl e1) (.slice d2 (S k).nw e2)) := s3.alloc _
        have G2 : x2.cell? ⟨bo, 1, none⟩ = some (.slice sa k sc) := (TT.out.later q2').blk.1.2
        have G3 : (x2.alloc (.cells #[.slice d0 (S k).nc e0, .slice d1 (S k).nl e1, .slice d2 (S k).nw e2] 37)).cell? ⟨bo, 1, none⟩ = some (.slice sa k sc) := TC.out.blk.1.2
        have hS2 : CopE w (.slice (some ad) nr c0) (.slice (some ⟨g, o, none⟩) n c1) g o k (.slice i0' n0 d0') (.slice i1' n1 d1') (.slice i2' n2 d2') x2 := hS.kept (fun q hq => q2.block q (by have := ZB.out; have := ZG.out; simp; rcases hq with e | e <;> omega))
        have hS3 : CopE w (.slice (some ad) nr c0) (.slice (some ⟨g, o, none⟩) n c1) g o k (.slice i0' n0 d0') (.slice i1' n1 d1') (.slice i2' n2 d2') (x2.alloc (.cells #[.slice d0 (S k).nc e0, .slice d1 (S k).nl e1, .slice d2 (S k).nw e2] 37)) := hS2.kept (fun q hq => (below_alloc x2 _).block q (by have := ZB.out; have := ZG.out; have := q2'.size; rcases hq with e | e <;> omega))
        clear s3 f3 a3 q2 q2'
        go_wp2_with fail
        refine hK.out _ _ hS2 (fun hS => ?_)
        clear hK K hS2
        refine wpAnyH_ready (rs := [8]) (by kernel_rfl) (by simp) ?_
        refine AllReadyH.cons rfl (fun K hK => ?_) AllReadyH.nil
        go_simp
        refine hK.out _ _ hS3 (fun hS => ?_)
        clear hK K
        refine wpAnyH_ready (rs := [9]) (by kernel_rfl) (by simp) ?_
        refine AllReadyH.cons rfl (fun K hK => ?_) AllReadyH.nil
        refine step_append_lies _ (by rfl) _ _ 25 (by rfl) (bo + 1) 37 j0 (.agg #[.slice none 0 0, .slice none 0 0, .slice none 0 0]) 3 72 Tryz.underlying25 gi gz0 gz1 gz2 rfl (by omega) (.slice sa k sc) k _ (by rfl) TC.out.rs ⟨x2.heap.size, 0, none⟩ 1 1 [.slice d0 (S k).nc e0, .slice d1 (S k).nl e1, .slice d2 (S k).nw e2] (by rfl) (by rfl) (World.news_of_block (cs := #[.slice d0 (S k).nc e0, .slice d1 (S k).nl e1, .slice d2 (S k).nw e2]) (t := 37) (fr := (0, 0)) (heap_alloc_new x2 _)) (by simp [Value.oneCell']) (by omega) (by unfold maxLen; omega) (by omega) TC.out.blk.lt (x2.heap.size + 1) (by simp) ?_
        intro hh cap' y OY GY AY LY
        have OS : OwnV y (bo + 1) (.slice (some ⟨hh, 0, none⟩) (k + 1) cap') (k + 1) (putU U k (.slice d0 (S k).nc e0) (.slice d1 (S k).nl e1) (.slice d2 (S k).nw e2)) := by
          unfold OwnV
          rw [listU_new]
          exact OY
        have T2 : Hid (CopT w (.slice (some ad) nr c0) (.slice (some ⟨g, o, none⟩) n c1) nr F (.slice xa nr xc) bo S (y.setCell ⟨bo, 1, none⟩ (.slice (some ⟨hh, 0, none⟩) (k + 1) cap')) (k + 1) (putU U k (.slice d0 (S k).nc e0) (.slice d1 (S k).nl e1) (.slice d2 (S k).nw e2)) (.slice (some ⟨hh, 0, none⟩) (k + 1) cap')) := TC.out.put (zz := wr.heap.size) SC.out TT.out.blk.lt (fun q e => (TT.out.rs.block q e).2) OS GY (by rcases AY with e | e; exact Or.inl e.symm; exact Or.inr (by rw [e]; simp [Value.ownBlock]))
        have nbs : ∀ q, q < bo + 1 → (Value.slice sa k sc).ownBlock ≠ some q := fun q hq e => by have := (TC.out.rs.block q e).1; omega
        have hSy : CopE w (.slice (some ad) nr c0) (.slice (some ⟨g, o, none⟩) n c1) g o k (.slice i0' n0 d0') (.slice i1' n1 d1') (.slice i2' n2 d2') y := hS3.kept (fun q hq => GY.block q (by have := ZB.out; have := ZG.out; have := TC.out.blk.lt; rcases hq with e | e <;> omega) (fun e => nbs q (by have := ZB.out; have := ZG.out; rcases hq with e | e <;> omega) e.symm))
        have hSz : CopE w (.slice (some ad) nr c0) (.slice (some ⟨g, o, none⟩) n c1) g o k (.slice i0' n0 d0') (.slice i1' n1 d1') (.slice i2' n2 d2') (y.setCell ⟨bo, 1, none⟩ (.slice (some ⟨hh, 0, none⟩) (k + 1) cap')) := hSy.kept (fun q hq => Below.heap_setCell _ _ _ q (by show q ≠ bo; have := ZB.out; have := ZG.out; rcases hq with e | e <;> omega))
        refine hK.out _ _ hSy (fun hS => ?_)
        clear hK K hSy
        refine wpAnyH_take (i := 10) (v := ?_) rfl (by kernel_rfl) (by kernel_rfl) (by kernel_rfl) (fun _ _ _ h => h) (Or.inl ⟨by kernel_rfl, ?_⟩) hS ?_
        rotate_left
        · intro wx hx
          obtain ⟨⟨⟨hx0, hx1⟩, _⟩, hx2, hx3, hx4⟩ := hx
          go_simp
          try with_reducible rfl
        obtain ⟨⟨t0, t1⟩, ft0, ft1⟩ := blk2_past TC.out.blk GY (nbs _ (by omega))
        refine wpAnyH_ready (rs := [11]) (by kernel_rfl) (by simp) ?_
        refine AllReadyH.cons rfl (fun K hK => ?_) AllReadyH.nil
        go_simp
        refine hK.out _ _ hSz (fun hS => ?_)
        clear hK K hSz
        refine wpAnyH_done (by kernel_rfl) ?_ _
        clear hS
        go_simp
        generalize y.setCell ⟨bo, 1, none⟩ (.slice (some ⟨hh, 0, none⟩) (k + 1) cap') = x4 at T2 ⊢
        clear t0 t1 ft0 ft1 OY GY AY LY OS TC SC TT G0 G2 G3 nbs hS3
        go_wp2
        go_roundw
        case rel => exact ⟨k + 1, putU U k (.slice d0 (S k).nc e0) (.slice d1 (S k).nl e1) (.slice d2 (S k).nw e2), some ⟨hh, 0, none⟩, cap', by omega, by go_num, T2⟩
        case measure => simp [intOf]; omega
      · go_simp
        go_wp2_with fail
        refine (l2Copy_is (S k) _ _ _ B _ (SK.out.later (below_dr (Below.refl _ _) 1)) (HS.out k hlt)).mono ?_
        rintro e x2 ⟨d0, e0, d1, e1, d2, e2, rfl, ⟨s3, f3, a3⟩, q2⟩
        have q2' : Below wr.heap.size wr x2 := ⟨q2.os, q2.tape, q2.output, q2.size, q2.block⟩
        have TC : Hid (CopT w (.slice (some ad) nr c0) (.slice (some ⟨g, o, none⟩) n c1) nr F (.slice xa nr xc) bo S (x2.alloc (.cells #[.slice d0 (S k).nc e0, .slice d1 (S k).nl e1, .slice d2 (S k).nw e2] 37)) k U (.slice sa k sc)) := (TT.out.later q2').later (below_alloc _ _)
        have SC : Hid (St (x2.alloc (.cells #[.slice d0 (S k).nc e0, .slice d1 (S k).nl e1, .slice d2 (S k).nw e2] 37)) wr.heap.size (S k) (.slice d0 (S k).nc e0) (.slice d1 (S k).nl e1) (.slice d2 (S k).nw e2)) := s3.alloc _
        have G2 : x2.cell? ⟨bo, 1, none⟩ = some (.slice sa k sc) := (TT.out.later q2').blk.1.2
        have G3 : (x2.alloc (.cells #[.slice d0 (S k).nc e0, .slice d1 (S k).nl e1, .slice d2 (S k).nw e2] 37)).cell? ⟨bo, 1, none⟩ = some (.slice sa k sc) := TC.out.blk.1.2
        have hS2 : CopE w (.slice (some ad) nr c0) (.slice (some ⟨g, o, none⟩) n c1) g o k (.slice i0' n0 d0') (.slice i1' n1 d1') (.slice i2' n2 d2') x2 := hS.kept (fun q hq => q2.block q (by have := ZB.out; have := ZG.out; simp; rcases hq with e | e <;> omega))
        have hS3 : CopE w (.slice (some ad) nr c0) (.slice (some ⟨g, o, none⟩) n c1) g o k (.slice i0' n0 d0') (.slice i1' n1 d1') (.slice i2' n2 d2') (x2.alloc (.cells #[.slice d0 (S k).nc e0, .slice d1 (S k).nl e1, .slice d2 (S k).nw e2] 37)) := hS2.kept (fun q hq => (below_alloc x2 _).block q (by have := ZB.out; have := ZG.out; have := q2'.size; rcases hq with e | e <;> omega))
        clear s3 f3 a3 q2 q2'
        go_wp2_with fail
        refine hK.out _ _ hS2 (fun hS => ?_)
        clear hK K hS2
        refine wpAnyH_ready (rs := [1, 8]) (by kernel_rfl) (by simp) ?_
        refine AllReadyH.cons rfl (fun K hK => ?_) (AllReadyH.cons rfl (fun K hK => ?_) AllReadyH.nil)
        · go_simp
          refine hK.out _ _ hS (fun hS => ?_)
          clear hK K
          refine wpAnyH_ready (rs := [8]) (by kernel_rfl) (by simp) ?_
          refine AllReadyH.cons rfl (fun K hK => ?_) AllReadyH.nil
          go_simp
          refine hK.out _ _ hS3 (fun hS => ?_)
          clear hK K
          refine wpAnyH_ready (rs := [9]) (by kernel_rfl) (by simp) ?_
          refine AllReadyH.cons rfl (fun K hK => ?_) AllReadyH.nil
          refine step_append_lies _ (by rfl) _ _ 25 (by rfl) (bo + 1) 37 j0 (.agg #[.slice none 0 0, .slice none 0 0, .slice none 0 0]) 3 72 Tryz.underlying25 gi gz0 gz1 gz2 rfl (by omega) (.slice sa k sc) k _ (by rfl) TC.out.rs ⟨x2.heap.size, 0, none⟩ 1 1 [.slice d0 (S k).nc e0, .slice d1 (S k).nl e1, .slice d2 (S k).nw e2] (by rfl) (by rfl) (World.news_of_block (cs := #[.slice d0 (S k).nc e0, .slice d1 (S k).nl e1, .slice d2 (S k).nw e2]) (t := 37) (fr := (0, 0)) (heap_alloc_new x2 _)) (by simp [Value.oneCell']) (by omega) (by unfold maxLen; omega) (by omega) TC.out.blk.lt (x2.heap.size + 1) (by simp) ?_
          intro hh cap' y OY GY AY LY
          have OS : OwnV y (bo + 1) (.slice (some ⟨hh, 0, none⟩) (k + 1) cap') (k + 1) (putU U k (.slice d0 (S k).nc e0) (.slice d1 (S k).nl e1) (.slice d2 (S k).nw e2)) := by
            unfold OwnV
            rw [listU_new]
            exact OY
          have T2 : Hid (CopT w (.slice (some ad) nr c0) (.slice (some ⟨g, o, none⟩) n c1) nr F (.slice xa nr xc) bo S (y.setCell ⟨bo, 1, none⟩ (.slice (some ⟨hh, 0, none⟩) (k + 1) cap')) (k + 1) (putU U k (.slice d0 (S k).nc e0) (.slice d1 (S k).nl e1) (.slice d2 (S k).nw e2)) (.slice (some ⟨hh, 0, none⟩) (k + 1) cap')) := TC.out.put (zz := wr.heap.size) SC.out TT.out.blk.lt (fun q e => (TT.out.rs.block q e).2) OS GY (by rcases AY with e | e; exact Or.inl e.symm; exact Or.inr (by rw [e]; simp [Value.ownBlock]))
          have nbs : ∀ q, q < bo + 1 → (Value.slice sa k sc).ownBlock ≠ some q := fun q hq e => by have := (TC.out.rs.block q e).1; omega
          have hSy : CopE w (.slice (some ad) nr c0) (.slice (some ⟨g, o, none⟩) n c1) g o k (.slice i0' n0 d0') (.slice i1' n1 d1') (.slice i2' n2 d2') y := hS3.kept (fun q hq => GY.block q (by have := ZB.out; have := ZG.out; have := TC.out.blk.lt; rcases hq with e | e <;> omega) (fun e => nbs q (by have := ZB.out; have := ZG.out; rcases hq with e | e <;> omega) e.symm))
          have hSz : CopE w (.slice (some ad) nr c0) (.slice (some ⟨g, o, none⟩) n c1) g o k (.slice i0' n0 d0') (.slice i1' n1 d1') (.slice i2' n2 d2') (y.setCell ⟨bo, 1, none⟩ (.slice (some ⟨hh, 0, none⟩) (k + 1) cap')) := hSy.kept (fun q hq => Below.heap_setCell _ _ _ q (by show q ≠ bo; have := ZB.out; have := ZG.out; rcases hq with e | e <;> omega))
          refine hK.out _ _ hSy (fun hS => ?_)
          clear hK K hSy
          refine wpAnyH_take (i := 10) (v := ?_) rfl (by kernel_rfl) (by kernel_rfl) (by kernel_rfl) (fun _ _ _ h => h) (Or.inl ⟨by kernel_rfl, ?_⟩) hS ?_
          rotate_left
          · intro wx hx
            obtain ⟨⟨⟨hx0, hx1⟩, _⟩, hx2, hx3, hx4⟩ := hx
            go_simp
            try with_reducible rfl
          obtain ⟨⟨t0, t1⟩, ft0, ft1⟩ := blk2_past TC.out.blk GY (nbs _ (by omega))
          refine wpAnyH_ready (rs := [11]) (by kernel_rfl) (by simp) ?_
          refine AllReadyH.cons rfl (fun K hK => ?_) AllReadyH.nil
          go_simp
          refine hK.out _ _ hSz (fun hS => ?_)
          clear hK K hSz
          refine wpAnyH_done (by kernel_rfl) ?_ _
          clear hS
          go_simp
          generalize y.setCell ⟨bo, 1, none⟩ (.slice (some ⟨hh, 0, none⟩) (k + 1) cap') = x4 at T2 ⊢
          clear t0 t1 ft0 ft1 OY GY AY LY OS TC SC TT G0 G2 G3 nbs hS3
          go_wp2
          go_roundw
          case rel => exact ⟨k + 1, putU U k (.slice d0 (S k).nc e0) (.slice d1 (S k).nl e1) (.slice d2 (S k).nw e2), some ⟨hh, 0, none⟩, cap', by omega, by go_num, T2⟩
          case measure => simp [intOf]; omega
        · go_simp
          refine hK.out _ _ hS3 (fun hS => ?_)
          clear hK K
          refine wpAnyH_ready (rs := [1]) (by kernel_rfl) (by simp) ?_
          refine AllReadyH.cons rfl (fun K hK => ?_) AllReadyH.nil
          go_simp
          refine hK.out _ _ hS (fun hS => ?_)
          clear hK K
          refine wpAnyH_ready (rs := [9]) (by kernel_rfl) (by simp) ?_
          refine AllReadyH.cons rfl (fun K hK => ?_) AllReadyH.nil
          refine step_append_lies _ (by rfl) _ _ 25 (by rfl) (bo + 1) 37 j0 (.agg #[.slice none 0 0, .slice none 0 0, .slice none 0 0]) 3 72 Tryz.underlying25 gi gz0 gz1 gz2 rfl (by omega) (.slice sa k sc) k _ (by rfl) TC.out.rs ⟨x2.heap.size, 0, none⟩ 1 1 [.slice d0 (S k).nc e0, .slice d1 (S k).nl e1, .slice d2 (S k).nw e2] (by rfl) (by rfl) (World.news_of_block (cs := #[.slice d0 (S k).nc e0, .slice d1 (S k).nl e1, .slice d2 (S k).nw e2]) (t := 37) (fr := (0, 0)) (heap_alloc_new x2 _)) (by simp [Value.oneCell']) (by omega) (by unfold maxLen; omega) (by omega) TC.out.blk.lt (x2.heap.size + 1) (by simp) ?_
          intro hh cap' y OY GY AY LY
          have OS : OwnV y (bo + 1) (.slice (some ⟨hh, 0, none⟩) (k + 1) cap') (k + 1) (putU U k (.slice d0 (S k).nc e0) (.slice d1 (S k).nl e1) (.slice d2 (S k).nw e2)) := by
            unfold OwnV
            rw [listU_new]
            exact OY
          have T2 : Hid (CopT w (.slice (some ad) nr c0) (.slice (some ⟨g, o, none⟩) n c1) nr F (.slice xa nr xc) bo S (y.setCell ⟨bo, 1, none⟩ (.slice (some ⟨hh, 0, none⟩) (k + 1) cap')) (k + 1) (putU U k (.slice d0 (S k).nc e0) (.slice d1 (S k).nl e1) (.slice d2 (S k).nw e2)) (.slice (some ⟨hh, 0, none⟩) (k + 1) cap')) := TC.out.put (zz := wr.heap.size) SC.out TT.out.blk.lt (fun q e => (TT.out.rs.block q e).2) OS GY (by rcases AY with e | e; exact Or.inl e.symm; exact Or.inr (by rw [e]; simp [Value.ownBlock]))
          have nbs : ∀ q, q < bo + 1 → (Value.slice sa k sc).ownBlock ≠ some q := fun q hq e => by have := (TC.out.rs.block q e).1; omega
          have hSy : CopE w (.slice (some ad) nr c0) (.slice (some ⟨g, o, none⟩) n c1) g o k (.slice i0' n0 d0') (.slice i1' n1 d1') (.slice i2' n2 d2') y := hS3.kept (fun q hq => GY.block q (by have := ZB.out; have := ZG.out; have := TC.out.blk.lt; rcases hq with e | e <;> omega) (fun e => nbs q (by have := ZB.out; have := ZG.out; rcases hq with e | e <;> omega) e.symm))
          have hSz : CopE w (.slice (some ad) nr c0) (.slice (some ⟨g, o, none⟩) n c1) g o k (.slice i0' n0 d0') (.slice i1' n1 d1') (.slice i2' n2 d2') (y.setCell ⟨bo, 1, none⟩ (.slice (some ⟨hh, 0, none⟩) (k + 1) cap')) := hSy.kept (fun q hq => Below.heap_setCell _ _ _ q (by show q ≠ bo; have := ZB.out; have := ZG.out; rcases hq with e | e <;> omega))
          refine hK.out _ _ hSy (fun hS => ?_)
          clear hK K hSy
          refine wpAnyH_take (i := 10) (v := ?_) rfl (by kernel_rfl) (by kernel_rfl) (by kernel_rfl) (fun _ _ _ h => h) (Or.inl ⟨by kernel_rfl, ?_⟩) hS ?_
          rotate_left
          · intro wx hx
            obtain ⟨⟨⟨hx0, hx1⟩, _⟩, hx2, hx3, hx4⟩ := hx
            go_simp
            try with_reducible rfl
          obtain ⟨⟨t0, t1⟩, ft0, ft1⟩ := blk2_past TC.out.blk GY (nbs _ (by omega))
          refine wpAnyH_ready (rs := [11]) (by kernel_rfl) (by simp) ?_
          refine AllReadyH.cons rfl (fun K hK => ?_) AllReadyH.nil
          go_simp
          refine hK.out _ _ hSz (fun hS => ?_)
          clear hK K hSz
          refine wpAnyH_done (by kernel_rfl) ?_ _
          clear hS
          go_simp
          generalize y.setCell ⟨bo, 1, none⟩ (.slice (some ⟨hh, 0, none⟩) (k + 1) cap') = x4 at T2 ⊢
          clear t0 t1 ft0 ft1 OY GY AY LY OS TC SC TT G0 G2 G3 nbs hS3
          go_wp2
          go_roundw
          case rel => exact ⟨k + 1, putU U k (.slice d0 (S k).nc e0) (.slice d1 (S k).nl e1) (.slice d2 (S k).nw e2), some ⟨hh, 0, none⟩, cap', by omega, by go_num, T2⟩
          case measure => simp [intOf]; omega
    · obtain rfl : k = n := by omega
      obtain ⟨⟨t0, t1⟩, _⟩ := TT.out.blk
      obtain ⟨⟨r0, r1⟩, f0, f1⟩ := TT.out.res
      go_wp2
      refine bodyPost_ret (v := .agg #[.slice xa nr xc, .slice sa k sc]) (by simp [results, Tryz.results26, go_sem, r0, r1]) rfl ⟨.slice xa nr xc, .slice sa k sc, U, rfl, ⟨?_, ?_, ?_, ?_⟩, (TT.out.below.setCell (Nat.le_succ _) _).setCell (Nat.le_succ _) _⟩
      · exact ((TT.out.rr.within (within_set _ (w.heap.size + 1) 0 _) (fun hp q hq => Or.inr (TT.out.rr.lt hp q hq).1)).within (within_set _ (w.heap.size + 1) 1 _) (fun hp q hq => Or.inr (TT.out.rr.lt hp q hq).1)).mono (by omega)
      · have hl := TT.out.lo
        have h1 := (TT.out.rs.far (a := ⟨w.heap.size + 1, 0, none⟩) (by show w.heap.size + 1 < bo + 1; omega) (.slice xa nr xc)).far (a := ⟨w.heap.size + 1, 1, none⟩) (by show w.heap.size + 1 < bo + 1; omega) (.slice sa k sc)
        exact World.ownsRow.mono h1 (by omega)
      · intro i hi
        have hl := TT.out.lo
        exact (((TT.out.st i hi).farO (b := w.heap.size + 1) (by omega) _).farO (b := w.heap.size + 1) (by omega) _).mono (by omega)
      · intro q hq
        exact ⟨TT.out.sp q hq, fun e => by have := TT.out.rb hr.1 q e; have := (TT.out.rs.block q hq).1; omega⟩
end

section
open Go.RowKit Go.Maps
-- Own text. PutStore, the model's side; and both sides' answers.
/-- A code, and groups: what the model answers. -/
def ResGw (w : World) (c : Int) (nr : Nat) (F : Nat → Int) (n : Nat) (S : Nat → Sto) (e : Ending) (w' : World) : Prop :=
  ∃ ra rc sa sc U, e = .returned (.agg #[.int .i64 c, .slice ra nr rc, .slice sa n sc]) ∧ Grs w' 0 nr F n S U (.slice ra nr rc) (.slice sa n sc) ∧ Below w.heap.size w w'
theorem grs_nil (w : World) (F : Nat → Int) (R : Nat → Sto) (xa : Option Addr) (xc : Nat) (ya : Option Addr) (yc : Nat) : Grs w 0 0 F 0 R (fun _ _ => .bool true) (.slice xa 0 xc) (.slice ya 0 yc) :=
  ⟨⟨_, _, rfl, fun h => absurd h (Nat.lt_irrefl 0)⟩, ⟨_, _, rfl, fun h => absurd h (Nat.lt_irrefl 0)⟩, fun i hi => absurd hi (Nat.not_lt_zero i)⟩
theorem Grs.set3 {x : World} {nr : Nat} {F : Nat → Int} {n : Nat} {S : Nat → Sto} {U : Nat → Nat → Value} {vr vs : Value} {B b : Nat} (h : Grs x B nr F n S U vr vs) (hb : b < B) (u0 u1 u2 : Value) : Grs (((x.setCell ⟨b, 0, none⟩ u0).setCell ⟨b, 1, none⟩ u1).setCell ⟨b, 2, none⟩ u2) B nr F n S U vr vs := by
  have one : ∀ {x : World} {j : Nat} {u : Value}, Grs x B nr F n S U vr vs → Grs (x.setCell ⟨b, j, none⟩ u) B nr F n S U vr vs := fun {x j u} h => by
    refine ⟨h.1.within (within_set x b j u) (fun hp q hq => Or.inr (by have := (h.1.lt hp q hq).1; omega)), ?_, fun i hi => (h.2.2 i hi).farO hb u⟩
    obtain ⟨⟨ao, cp, hv, h1⟩, h2⟩ := h.2
    refine ⟨ao, cp, hv, fun hn => ?_⟩
    obtain ⟨g, o, e, hl, hg, hc⟩ := h1 hn
    have eb : (x.setCell ⟨b, j, none⟩ u).heap[g]? = x.heap[g]? := Below.heap_setCell x _ u g (by show g ≠ b; omega)
    refine ⟨g, o, e, hl, by simpa [World.setCell] using hg, fun i hi => ?_⟩
    obtain ⟨k0, k1, k2⟩ := hc i hi
    exact ⟨(World.cell?_of_block (w := x) (a := ⟨g, o + i * 3, none⟩) eb).trans k0, (World.cell?_of_block (w := x) (a := ⟨g, o + i * 3 + 1, none⟩) eb).trans k1, (World.cell?_of_block (w := x) (a := ⟨g, o + i * 3 + 2, none⟩) eb).trans k2⟩
  exact one (one (one h))
/-- What the putting region of the model reads. -/
def PutE (w : World) (t0 t1 t2 : Value) (b8 : Nat) (xr vS : Value) (x : World) : Prop := Blk2 x b8 xr vS ∧ Blk3 x (w.heap.size + 1) t0 t1 t2
end
end
end Go.Proofs.YtpfmbfmlpoibeaaGreat
