/-
  Own text. StoreFor: the model's l7For, the program's pointTo and what its store tells; what both StoreFor answer.
-/
import Derived.Test.YtkaeolbnafhjaaaGreatGrpL
import Derived.Test.YtkaeolbnafhjaaaGreatStoA
import Derived.Test.YtkaeolbnafhjaaaGreatCopyA
namespace Go.Proofs.YtkaeolbnafhjaaaGreat
open Go.RowKit Go.Maps

/-- What l7For reads: the two lists of the groups. -/
def ForE (b : Nat) (vr vs : Value) (x : World) : Prop := x.cell? ⟨b, 0, none⟩ = some vr ∧ x.cell? ⟨b, 1, none⟩ = some vs
set_option maxRecDepth 100000 in
set_option maxHeartbeats 4000000 in
theorem l7For_is (nr : Nat) (F : Nat → Int) (n : Nat) (S : Nat → Sto) (V : Nat → Nat → Value) (ar : Option Addr) (cr g o c1 : Nat) (key : Int) (j b : Nat) (w : World) (h : LiesG w b nr F n S V (.slice ar nr cr) (.slice (some ⟨g, o, none⟩) n c1)) (hr : nr ≤ 6) (hj : AtR nr F key j) (hjn : j < n) :
    Calls Tryz.prog 58 #[.pointer (some ⟨b, 0, none⟩), .int .i64 key] w fun e w' => e = .returned (.pointer (some ⟨g, o + j * 3, none⟩)) ∧ w' = w.drew := by
  have H : Hid (LiesG w b nr F n S V (.slice ar nr cr) (.slice (some ⟨g, o, none⟩) n c1)) := h
  have HJ : Hid (AtR nr F key j) := hj
  have p := h.1
  clear h hj
  go_enter Tryz.func58, Tryz.ntmps58
  go_wp2_with fail
  refine wp_region_held_drew (S := ForE b (.slice ar nr cr) (.slice (some ⟨g, o, none⟩) n c1)) (by kernel_rfl) p (fun hS => ?_)
  refine wpAnyH_take (i := 0) (v := ?_) rfl (by kernel_rfl) (by kernel_rfl) (by kernel_rfl) (fun _ _ _ h => h) (Or.inl ⟨by kernel_rfl, ?_⟩) hS ?_
  rotate_left
  · intro wx hx
    obtain ⟨hx0, hx1⟩ := hx
    go_simp
    try with_reducible rfl
  refine wpAnyH_take (i := 1) (v := ?_) rfl (by kernel_rfl) (by kernel_rfl) (by kernel_rfl) (fun _ _ _ h => h) (Or.inl ⟨by kernel_rfl, ?_⟩) hS ?_
  rotate_left
  · intro wx hx
    obtain ⟨hx0, hx1⟩ := hx
    go_simp
    try with_reducible rfl
  refine wpAnyH_take (i := 2) (v := ?_) rfl (by kernel_rfl) (by kernel_rfl) (by kernel_rfl) (fun _ _ _ h => h) (Or.inl ⟨by kernel_rfl, ?_⟩) hS ?_
  rotate_left
  · intro wx hx
    obtain ⟨hx0, hx1⟩ := hx
    go_simp
    try with_reducible rfl
  refine wpAnyH_take (i := 3) (v := ?_) rfl (by kernel_rfl) (by kernel_rfl) (by kernel_rfl) (fun _ _ _ h => h) (Or.inl ⟨by kernel_rfl, ?_⟩) hS ?_
  rotate_left
  · intro wx hx
    obtain ⟨hx0, hx1⟩ := hx
    go_simp
    try with_reducible rfl
  refine wpAnyH_take (i := 4) (v := ?_) rfl (by kernel_rfl) (by kernel_rfl) (by kernel_rfl) (fun _ _ _ h => h) (Or.inl ⟨by kernel_rfl, ?_⟩) hS ?_
  rotate_left
  · intro wx hx
    obtain ⟨hx0, hx1⟩ := hx
    go_simp
    try with_reducible rfl
  refine wpAnyH_take (i := 5) (v := ?_) rfl (by kernel_rfl) (by kernel_rfl) (by kernel_rfl) (fun _ _ _ h => h) (Or.inl ⟨by kernel_rfl, ?_⟩) hS ?_
  rotate_left
  · intro wx hx
    obtain ⟨hx0, hx1⟩ := hx
    go_simp
    try with_reducible rfl
  refine wpAnyH_take (i := 6) (v := ?_) rfl (by kernel_rfl) (by kernel_rfl) (by kernel_rfl) (fun _ _ _ h => h) (Or.inl ⟨by kernel_rfl, ?_⟩) hS ?_
  rotate_left
  · intro wx hx
    obtain ⟨hx0, hx1⟩ := hx
    go_simp
    try with_reducible rfl
  refine wpAnyH_take (i := 7) (v := ?_) rfl (by kernel_rfl) (by kernel_rfl) (by kernel_rfl) (fun _ _ _ h => h) (Or.inl ⟨by kernel_rfl, ?_⟩) hS ?_
  rotate_left
  · intro wx hx
    obtain ⟨hx0, hx1⟩ := hx
    go_simp
    try with_reducible rfl
  refine wpAnyH_take (i := 8) (v := ?_) rfl (by kernel_rfl) (by kernel_rfl) (by kernel_rfl) (fun _ _ _ h => h) (Or.inl ⟨by kernel_rfl, ?_⟩) hS ?_
  rotate_left
  · intro wx hx
    obtain ⟨hx0, hx1⟩ := hx
    go_simp
    try with_reducible rfl
  refine wpAnyH_ready (rs := [9]) (by kernel_rfl) (by simp) ?_
  refine AllReadyH.cons rfl (fun K hK => ?_) AllReadyH.nil
  go_simp
  go_wp2_with fail
  refine (l6Route_is _ 0 nr F key j _ (H.out.2.1.drewN 1) HJ.out (by omega)).mono ?_
  rintro e w1 ⟨rfl, rfl⟩
  go_wp2_with fail
  refine hK.out _ _ hS (fun hS => ?_)
  clear hK K
  refine wpAnyH_take (i := 10) (v := ?_) rfl (by kernel_rfl) (by kernel_rfl) (by kernel_rfl) (fun _ _ _ h => h) (Or.inl ⟨by kernel_rfl, ?_⟩) hS ?_
  rotate_left
  · intro wx hx
    obtain ⟨hx0, hx1⟩ := hx
    go_simp
    try with_reducible rfl
  refine wpAnyH_take (i := 11) (v := ?_) rfl (by kernel_rfl) (by kernel_rfl) (by kernel_rfl) (fun _ _ _ h => h) (Or.inl ⟨by kernel_rfl, ?_⟩) hS ?_
  rotate_left
  · intro wx hx
    obtain ⟨hx0, hx1⟩ := hx
    go_simp
    try with_reducible rfl
  refine wpAnyH_done (by kernel_rfl) ?_ _
  clear hS
  go_simp
  go_wp2
  go_ret
  exact ⟨rfl, rfl⟩
/-- A range's store that is worked on: its range and its columns, in block b. -/
def RSt (x : World) (B b : Nat) (fr to ep : Int) (N : Nat) (m : Int → Int → Option Int) (nl : Nat) (l : Nat → Int) (nw : Nat) (k : Nat → Int) (g : Nat) (u1 u2 : Value) : Prop :=
  (x.cell? ⟨b, 0, none⟩ = some (.int .i64 fr) ∧ x.cell? ⟨b, 1, none⟩ = some (.int .i64 to) ∧ x.cell? ⟨b, 2, none⟩ = some (.int .i64 ep)) ∧ ColsO x B b 3 N m nl l nw k g u1 u2 ∧ ApartC b g u1 u2
def PtE (w : World) (s0 s1 s2 r0 r1 r2 : Value) (x : World) : Prop := Blk3 x w.heap.size s0 s1 s2 ∧ Blk3 x (w.heap.size + 1) r0 r1 r2
set_option maxRecDepth 100000 in
set_option maxHeartbeats 4000000 in
theorem pointTo_is (S : Sto) (v0 v1 v2 : Value) (fr to ep : Int) (B : Nat) (w : World) (h : St w B S v0 v1 v2) (hz : storeF S = 0) :
    Calls Tryz.prog 45 #[.agg #[v0, v1, v2], .agg #[.int .i64 fr, .int .i64 to, .int .i64 ep]] w fun e w' => ∃ b g u1 u2, e = .returned (.pointer (some ⟨b, 0, none⟩)) ∧ RSt w' w.heap.size b fr to ep S.nc (cellM S S.nc) S.nl S.l S.nw S.k g u1 u2 ∧ Below w.heap.size w w' := by
  obtain ⟨a0, c0, a1, c1, a2, c2, rfl, rfl, rfl⟩ := h.form
  have H : Hid (St w B S (.slice a0 S.nc c0) (.slice a1 S.nl c1) (.slice a2 S.nw c2)) := h
  have Z := storeF_zero hz
  have HZ : Hid ((S.nc ≤ 200 ∧ S.nl ≤ 200 ∧ S.nw ≤ 200) ∧ scan (cellF S.c) S.nc = 0) := ⟨Z.1, Z.2.1⟩
  have HP : Hid (PtE w (.slice a0 S.nc c0) (.slice a1 S.nl c1) (.slice a2 S.nw c2) (.int .i64 fr) (.int .i64 to) (.int .i64 ep) ((w.alloc (.cells #[.slice a0 S.nc c0, .slice a1 S.nl c1, .slice a2 S.nw c2] 39)).alloc (.cells #[.int .i64 fr, .int .i64 to, .int .i64 ep] 81)) ∧ Below w.heap.size w ((w.alloc (.cells #[.slice a0 S.nc c0, .slice a1 S.nl c1, .slice a2 S.nw c2] 39)).alloc (.cells #[.int .i64 fr, .int .i64 to, .int .i64 ep] 81))) := by
    refine ⟨⟨(Blk3.new w _ _ _ _).alloc _, ?_⟩, (below_alloc _ _).alloc (by simp) _⟩
    have := Blk3.new (w.alloc (.cells #[.slice a0 S.nc c0, .slice a1 S.nl c1, .slice a2 S.nw c2] 39)) (.int .i64 fr) (.int .i64 to) (.int .i64 ep) 81
    rwa [World.size_alloc] at this
  clear h hz Z
  go_enter Tryz.func45, Tryz.ntmps45
  go_wp2_with fail
  generalize (w.alloc (.cells #[.slice a0 S.nc c0, .slice a1 S.nl c1, .slice a2 S.nw c2] 39)).alloc (.cells #[.int .i64 fr, .int .i64 to, .int .i64 ep] 81) = w1 at HP ⊢
  refine wp_region_held_drew (S := PtE w (.slice a0 S.nc c0) (.slice a1 S.nl c1) (.slice a2 S.nw c2) (.int .i64 fr) (.int .i64 to) (.int .i64 ep)) (by kernel_rfl) ⟨HP.out.1.1.kept rfl, HP.out.1.2.kept rfl⟩ (fun hS => ?_)
  refine wpAnyH_take (i := 0) (v := ?_) rfl (by kernel_rfl) (by kernel_rfl) (by kernel_rfl) (fun _ _ _ h => h) (Or.inl ⟨by kernel_rfl, ?_⟩) hS ?_
  rotate_left
  · intro wx hx
    obtain ⟨⟨⟨hx0, hx1, hx2⟩, _⟩, ⟨hx3, hx4, hx5⟩, _⟩ := hx
    go_simp
    try with_reducible rfl
  refine wpAnyH_take (i := 1) (v := ?_) rfl (by kernel_rfl) (by kernel_rfl) (by kernel_rfl) (fun _ _ _ h => h) (Or.inl ⟨by kernel_rfl, ?_⟩) hS ?_
  rotate_left
  · intro wx hx
    obtain ⟨⟨⟨hx0, hx1, hx2⟩, _⟩, ⟨hx3, hx4, hx5⟩, _⟩ := hx
    go_simp
    try with_reducible rfl
  refine wpAnyH_ready (rs := [2]) (by kernel_rfl) (by simp) ?_
  refine AllReadyH.cons rfl (fun K hK => ?_) AllReadyH.nil
  go_simp
  go_wp2_with fail
  refine (columnsOf_apart S B _ _ _ _ ((H.out.later HP.out.2).later (below_dr (Below.refl _ _) 1)) HZ.out.1.1 HZ.out.1.2.1 HZ.out.1.2.2 HZ.out.2).mono ?_
  rintro e w2 ⟨b, g, u1, u2, rfl, hC, hap, q2⟩
  have q2' : Below w1.heap.size w1 w2 := ⟨q2.os, q2.tape, q2.output, q2.size, q2.block⟩
  obtain ⟨b1, d1, rfl⟩ := hC.2.2.2.2.1.form
  obtain ⟨b2, d2, rfl⟩ := hC.2.2.2.2.2.form
  have HC : Hid (Cols w2 w1.heap.size b S.nc (cellM S S.nc) S.nl S.l S.nw S.k g (.slice b1 S.nl d1) (.slice b2 S.nw d2) ∧ ApartC b g (.slice b1 S.nl d1) (.slice b2 S.nw d2)) := ⟨hC, hap⟩
  have HB2 : Hid (Below w.heap.size w w2 ∧ w.heap.size ≤ w1.heap.size) := ⟨HP.out.2.trans (q2'.mono HP.out.2.size), HP.out.2.size⟩
  have hS' : PtE w (.slice a0 S.nc c0) (.slice a1 S.nl c1) (.slice a2 S.nw c2) (.int .i64 fr) (.int .i64 to) (.int .i64 ep) w2 := ⟨hS.1.later q2, hS.2.later q2⟩
  obtain ⟨⟨t0, t1, t2⟩, _⟩ := hC.2.2.1
  clear hC hap q2 q2'
  go_wp2_with fail
  refine hK.out _ _ hS' (fun hS => ?_)
  clear hK K hS'
  refine wpAnyH_take (i := 3) (v := ?_) rfl (by kernel_rfl) (by kernel_rfl) (by kernel_rfl) (fun _ _ _ h => h) (Or.inl ⟨by kernel_rfl, ?_⟩) hS ?_
  rotate_left
  · intro wx hx
    obtain ⟨⟨⟨hx0, hx1, hx2⟩, _⟩, ⟨hx3, hx4, hx5⟩, _⟩ := hx
    go_simp
    try with_reducible rfl
  refine wpAnyH_ready (rs := [4]) (by kernel_rfl) (by simp) ?_
  refine AllReadyH.cons rfl (fun K hK => ?_) AllReadyH.nil
  go_simp
  refine hK.out _ _ hS (fun hS => ?_)
  clear hK K
  refine wpAnyH_take (i := 5) (v := ?_) rfl (by kernel_rfl) (by kernel_rfl) (by kernel_rfl) (fun _ _ _ h => h) (Or.inl ⟨by kernel_rfl, ?_⟩) hS ?_
  rotate_left
  · intro wx hx
    obtain ⟨⟨⟨hx0, hx1, hx2⟩, _⟩, ⟨hx3, hx4, hx5⟩, _⟩ := hx
    go_simp
    try with_reducible rfl
  refine wpAnyH_ready (rs := [6]) (by kernel_rfl) (by simp) ?_
  refine AllReadyH.cons rfl (fun K hK => ?_) AllReadyH.nil
  go_simp
  refine hK.out _ _ (show PtE w _ _ _ _ _ _ _ from ⟨hS.1.alloc _, hS.2.alloc _⟩) (fun hS => ?_)
  clear hK K
  refine wpAnyH_take (i := 7) (v := ?_) rfl (by kernel_rfl) (by kernel_rfl) (by kernel_rfl) (fun _ _ _ h => h) (Or.inl ⟨by kernel_rfl, ?_⟩) hS ?_
  rotate_left
  · intro wx hx
    obtain ⟨⟨⟨hx0, hx1, hx2⟩, _⟩, ⟨hx3, hx4, hx5⟩, _⟩ := hx
    go_simp
    try with_reducible rfl
  refine wpAnyH_done (by kernel_rfl) ?_ _
  clear hS t0 t1 t2
  go_simp
  go_wp2
  go_ret
  have hlt := HC.out.1.2.2.1.lt
  have hgl := HC.out.1.2.2.2.1.lt
  have cl : ∀ (j : Nat) (u : Value), (#[.int .i64 fr, .int .i64 to, .int .i64 ep, .map (some g), .slice b1 S.nl d1, .slice b2 S.nw d2] : Array Value)[j]? = some u → (w2.alloc (.cells #[.int .i64 fr, .int .i64 to, .int .i64 ep, .map (some g), .slice b1 S.nl d1, .slice b2 S.nw d2] 105)).cell? ⟨w2.heap.size, j, none⟩ = some u := fun j u hu => (World.cell?_alloc_mark w2 _ _ _ j).trans hu
  have cf : ∀ (j : Nat), (w2.alloc (.cells #[.int .i64 fr, .int .i64 to, .int .i64 ep, .map (some g), .slice b1 S.nl d1, .slice b2 S.nw d2] 105)).frozen? ⟨w2.heap.size, j, none⟩ = false := fun j => by simp
  refine ⟨w2.heap.size, g, _, _, rfl, ⟨⟨cl 0 _ rfl, cl 1 _ rfl, cl 2 _ rfl⟩, ⟨HB2.out.1.size, Nat.le_trans HB2.out.2 HC.out.1.2.1, ⟨⟨cl 3 _ rfl, cl 4 _ rfl, cl 5 _ rfl⟩, cf 3, cf 4, cf 5⟩, HC.out.1.2.2.2.1.later (below_alloc _ _), (HC.out.1.2.2.2.2.1.later (below_alloc _ _)).mono HB2.out.2, (HC.out.1.2.2.2.2.2.later (below_alloc _ _)).mono HB2.out.2⟩, ⟨by omega, fun q e => ⟨by have := (own_in HC.out.1.2.2.2.2.1 q e).2; omega, (HC.out.2.2.1 q e).2⟩, fun q e => ⟨by have := (own_in HC.out.1.2.2.2.2.2 q e).2; omega, (HC.out.2.2.2.1 q e).2⟩, HC.out.2.2.2.2⟩⟩, HB2.out.1.trans ((below_alloc _ _).mono HB2.out.1.size)⟩
theorem mapSelf {S : Sto} (hz : scan (cellF S.c) S.nc = 0) : MapRow (cellM S S.nc) S.nc S.c :=
  ⟨cells_rise hz, fun i hi => by
    have hc := cellF_zero (scan_zero hz i hi)
    have hk := faultOf_zero hc.1
    exact ⟨wf_small hk.1 (by omega), wf_small (by omega) hc.2.2.1⟩, fun i hi => cellM_at hz hi ⟨rfl, rfl⟩, fun _ _ _ _ _ h => cellM_some h⟩
def ForAns (nr : Nat) (F : Nat → Int) (n : Nat) (S : Nat → Sto) (key c : Int) (R : Sto) : Prop :=
  (groupsF nr F n S ≠ 0 ∧ c = groupsF nr F n S ∧ R = emptyS) ∨ (groupsF nr F n S = 0 ∧ faultOf key ≠ 0 ∧ c = faultOf key ∧ R = emptyS) ∨ (groupsF nr F n S = 0 ∧ faultOf key = 0 ∧ ∃ j, AtR nr F key j ∧ c = 0 ∧ R = S j)
set_option maxRecDepth 100000 in
set_option maxHeartbeats 4000000 in
theorem specStoreFor_is (nr : Nat) (F : Nat → Int) (n : Nat) (S : Nat → Sto) (V : Nat → Nat → Value) (vr vs : Value) (key c : Int) (R : Sto) (B : Nat) (w : World) (h : Grs w B nr F n S V vr vs) (hr : nr ≤ 9223372036854775807) (hn : n ≤ 9223372036854775807) (hA : ForAns nr F n S key c R) :
    Calls Tryz.prog 18 #[.agg #[vr, vs], .int .i64 key] w (ResSto w c R) := by
  obtain ⟨a0, c0, a1, c1, rfl, rfl⟩ := h.form
  have HE : Hid (CallGS w nr F n S V B (.slice a0 nr c0) (.slice a1 n c1) ((w.alloc (.cells #[.slice a0 nr c0, .slice a1 n c1] 31)).alloc (.cells #[.int .i64 0, .slice none 0 0, .slice none 0 0, .slice none 0 0] 52))) := CallGS.new h _ _
  clear h
  unfold ResSto
  obtain ⟨f, hf⟩ : ∃ f, groupsF nr F n S = f := ⟨_, rfl⟩
  have HF : Hid (groupsF nr F n S = f) := hf
  have hA : (f ≠ 0 ∧ c = f ∧ R = emptyS) ∨ (f = 0 ∧ faultOf key ≠ 0 ∧ c = faultOf key ∧ R = emptyS) ∨ (f = 0 ∧ faultOf key = 0 ∧ ∃ j, AtR nr F key j ∧ c = 0 ∧ R = S j) := by unfold ForAns at hA; rw [hf] at hA; exact hA
  obtain ⟨⟨p0, p1⟩, _⟩ := HE.out.1
  rcases hA with ⟨hz, hc, rfl⟩ | ⟨rfl, hz, hc, rfl⟩ | ⟨rfl, hz, j, hj, rfl, rfl⟩
  · subst hc
    have d : (c == 0) = false := beq_eq_false_iff_ne.2 hz
    have d' : (c != 0) = true := bne_iff_ne.2 hz
    clear hz HF
    go_enter Tryz.func18, Tryz.ntmps18
    go_wp2_with fail
    refine (l7Fault_any nr F n S V _ _ _ _ ⟨⟨p0, p1⟩, HE.out.2.2.1.mono (Nat.zero_le _)⟩ hr hn).mono ?_
    rw [hf]
    rintro e w1 ⟨rfl, q1⟩
    have HE : Hid (CallGS w nr F n S V B (.slice a0 nr c0) (.slice a1 n c1) w1) := HE.out.later q1
    clear q1 p0 p1 hf
    obtain ⟨⟨p0, p1⟩, _⟩ := HE.out.1
    go_wp2_with fail
    refine (l3Bad_is c _).mono ?_
    rintro e w4 ⟨d0, e0, d1, e1, d2, e2, rfl, ⟨s3, f3', a3⟩, q4⟩
    have z3 : Hid (w.heap.size + 2 ≤ w1.heap.size) := HE.out.2.1.lt
    have S3 : Hid ((St w4 (w.heap.size + 2) emptyS (.slice d0 (emptyS).nc e0) (.slice d1 (emptyS).nl e1) (.slice d2 (emptyS).nw e2) ∧ FreeS w4 emptyS (.slice d0 (emptyS).nc e0) (.slice d1 (emptyS).nl e1) (.slice d2 (emptyS).nw e2)) ∧ ApartD emptyS (.slice d0 (emptyS).nc e0) (.slice d1 (emptyS).nl e1) (.slice d2 (emptyS).nw e2)) := ⟨⟨s3.mono z3.out, f3'⟩, a3⟩
    have HBW : Hid (Below w.heap.size w w4) := HE.out.2.2.2.trans (q4.mono HE.out.2.2.2.size)
    obtain ⟨⟨r0, r1, r2, r3⟩, f0, f1, f2, f3⟩ := HE.out.2.1.later q4
    clear s3 f3' a3 q4
    have hlo : (w.heap.size + 1 : Nat) < w.heap.size + 2 := Nat.lt_succ_self _
    go_wp2
    exact bodyPost_ret (v := .agg #[.int .i64 c, .slice d0 (emptyS).nc e0, .slice d1 (emptyS).nl e1, .slice d2 (emptyS).nw e2]) (by simp [results, Tryz.results18, go_sem, r0, r1, r2, r3]) rfl ⟨d0, e0, d1, e1, d2, e2, rfl, ⟨((((S3.out.1.1.far hlo _).far hlo _).far hlo _).far hlo _).mono (by omega), (((S3.out.1.2.far _ _).far _ _).far _ _).far _ _, S3.out.2⟩, (((HBW.out.setCell (Nat.le_succ _) _).setCell (Nat.le_succ _) _).setCell (Nat.le_succ _) _).setCell (Nat.le_succ _) _⟩
  · have HK : Hid (faultOf key = c) := hc.symm
    have d : (c == 0) = false := beq_eq_false_iff_ne.2 (by rw [hc]; exact hz)
    have d' : (c != 0) = true := bne_iff_ne.2 (by rw [hc]; exact hz)
    clear hz HF hc
    go_enter Tryz.func18, Tryz.ntmps18
    go_wp2_with fail
    refine (l7Fault_any nr F n S V _ _ _ _ ⟨⟨p0, p1⟩, HE.out.2.2.1.mono (Nat.zero_le _)⟩ hr hn).mono ?_
    rw [hf]
    rintro e w1 ⟨rfl, q1⟩
    have HE : Hid (CallGS w nr F n S V B (.slice a0 nr c0) (.slice a1 n c1) w1) := HE.out.later q1
    clear q1 p0 p1 hf
    obtain ⟨⟨p0, p1⟩, _⟩ := HE.out.1
    go_wp2_with fail
    refine (l1Fault_any key _).mono ?_
    rw [HK.out]
    rintro e w2 ⟨rfl, rfl⟩
    go_wp2_with fail
    refine (l3Bad_is c _).mono ?_
    rintro e w4 ⟨d0, e0, d1, e1, d2, e2, rfl, ⟨s3, f3', a3⟩, q4⟩
    have z3 : Hid (w.heap.size + 2 ≤ w2.heap.size) := HE.out.2.1.lt
    have S3 : Hid ((St w4 (w.heap.size + 2) emptyS (.slice d0 (emptyS).nc e0) (.slice d1 (emptyS).nl e1) (.slice d2 (emptyS).nw e2) ∧ FreeS w4 emptyS (.slice d0 (emptyS).nc e0) (.slice d1 (emptyS).nl e1) (.slice d2 (emptyS).nw e2)) ∧ ApartD emptyS (.slice d0 (emptyS).nc e0) (.slice d1 (emptyS).nl e1) (.slice d2 (emptyS).nw e2)) := ⟨⟨s3.mono z3.out, f3'⟩, a3⟩
    have HBW : Hid (Below w.heap.size w w4) := HE.out.2.2.2.trans (q4.mono HE.out.2.2.2.size)
    obtain ⟨⟨r0, r1, r2, r3⟩, f0, f1, f2, f3⟩ := HE.out.2.1.later q4
    clear s3 f3' a3 q4
    have hlo : (w.heap.size + 1 : Nat) < w.heap.size + 2 := Nat.lt_succ_self _
    go_wp2
    exact bodyPost_ret (v := .agg #[.int .i64 c, .slice d0 (emptyS).nc e0, .slice d1 (emptyS).nl e1, .slice d2 (emptyS).nw e2]) (by simp [results, Tryz.results18, go_sem, r0, r1, r2, r3]) rfl ⟨d0, e0, d1, e1, d2, e2, rfl, ⟨((((S3.out.1.1.far hlo _).far hlo _).far hlo _).far hlo _).mono (by omega), (((S3.out.1.2.far _ _).far _ _).far _ _).far _ _, S3.out.2⟩, (((HBW.out.setCell (Nat.le_succ _) _).setCell (Nat.le_succ _) _).setCell (Nat.le_succ _) _).setCell (Nat.le_succ _) _⟩
  · have HK : Hid (faultOf key = 0) := hz
    have Z := groupsF_zero HF.out
    have hjn : j < n := by have := hj.1; have := Z.2.1; omega
    have HZ : Hid (((n ≤ 6 ∧ nr ≤ 6) ∧ AtR nr F key j) ∧ (S j).nc ≤ 200 ∧ (S j).nl ≤ 200 ∧ (S j).nw ≤ 200) := ⟨⟨⟨by have := Z.1.n6; have := Z.2.1; omega, Z.1.n6⟩, hj⟩, (storeF_zero (Z.2.2.1 j hjn).1).1⟩
    clear Z HF hz hj
    go_enter Tryz.func18, Tryz.ntmps18
    go_wp2_with fail
    refine (l7Fault_any nr F n S V _ _ _ _ ⟨⟨p0, p1⟩, HE.out.2.2.1.mono (Nat.zero_le _)⟩ hr hn).mono ?_
    rw [hf]
    rintro e w1 ⟨rfl, q1⟩
    have HE : Hid (CallGS w nr F n S V B (.slice a0 nr c0) (.slice a1 n c1) w1) := HE.out.later q1
    clear q1 p0 p1 hf
    obtain ⟨⟨p0, p1⟩, _⟩ := HE.out.1
    go_wp2_with fail
    refine (l1Fault_any key _).mono ?_
    rw [HK.out]
    rintro e w2 ⟨rfl, rfl⟩
    obtain ⟨g, o, rfl, _, hg, ⟨b0, b1, b2⟩, sk⟩ := HE.out.2.2.1.2.at hjn
    go_wp2_with fail
    refine (l7For_is nr F n S V _ _ g o c1 key j _ _ ⟨⟨p0, p1⟩, HE.out.2.2.1.mono (Nat.zero_le _)⟩ HZ.out.1.1.2 HZ.out.1.2 hjn).mono ?_
    rintro e w3 ⟨rfl, hw3⟩
    have q3 : Below w2.heap.size w2 w3 := by rw [hw3]; exact below_dr (Below.refl _ _) 1
    have HE : Hid (CallGS w nr F n S V B (.slice a0 nr c0) (.slice (some ⟨g, o, none⟩) n c1) w3) := HE.out.later q3
    replace b0 := (q3.cell (p := ⟨g, o + j * 3, none⟩) hg).trans b0
    replace b1 := (q3.cell (p := ⟨g, o + j * 3 + 1, none⟩) hg).trans b1
    replace b2 := (q3.cell (p := ⟨g, o + j * 3 + 2, none⟩) hg).trans b2
    obtain ⟨i0', d0', i1', d1', i2', d2', e0', e1', e2'⟩ := sk.form
    rw [e0'] at b0
    rw [e1'] at b1
    rw [e2'] at b2
    have SK : Hid (St w3 B (S j) (.slice i0' (S j).nc d0') (.slice i1' (S j).nl d1') (.slice i2' (S j).nw d2')) := by
      rw [e0', e1', e2'] at sk
      exact sk.later q3
    clear hw3 q3 sk e0' e1' e2' p0 p1
    go_wp2_with fail
    refine (l2Copy_is (S j) _ _ _ B _ SK.out ⟨by have := HZ.out.2; omega, by have := HZ.out.2; omega, by have := HZ.out.2; omega⟩).mono ?_
    rintro e w4 ⟨d0, e0, d1, e1, d2, e2, rfl, ⟨s3, f3', a3⟩, q4⟩
    clear b0 b1 b2
    have z3 : Hid (w.heap.size + 2 ≤ w3.heap.size) := HE.out.2.1.lt
    have S3 : Hid ((St w4 (w.heap.size + 2) (S j) (.slice d0 ((S j)).nc e0) (.slice d1 ((S j)).nl e1) (.slice d2 ((S j)).nw e2) ∧ FreeS w4 (S j) (.slice d0 ((S j)).nc e0) (.slice d1 ((S j)).nl e1) (.slice d2 ((S j)).nw e2)) ∧ ApartD (S j) (.slice d0 ((S j)).nc e0) (.slice d1 ((S j)).nl e1) (.slice d2 ((S j)).nw e2)) := ⟨⟨s3.mono z3.out, f3'⟩, a3⟩
    have HBW : Hid (Below w.heap.size w w4) := HE.out.2.2.2.trans (q4.mono HE.out.2.2.2.size)
    obtain ⟨⟨r0, r1, r2, r3⟩, f0, f1, f2, f3⟩ := HE.out.2.1.later q4
    clear s3 f3' a3 q4
    have hlo : (w.heap.size + 1 : Nat) < w.heap.size + 2 := Nat.lt_succ_self _
    go_wp2
    exact bodyPost_ret (v := .agg #[.int .i64 0, .slice d0 ((S j)).nc e0, .slice d1 ((S j)).nl e1, .slice d2 ((S j)).nw e2]) (by simp [results, Tryz.results18, go_sem, r0, r1, r2, r3]) rfl ⟨d0, e0, d1, e1, d2, e2, rfl, ⟨((((S3.out.1.1.far hlo _).far hlo _).far hlo _).far hlo _).mono (by omega), (((S3.out.1.2.far _ _).far _ _).far _ _).far _ _, S3.out.2⟩, (((HBW.out.setCell (Nat.le_succ _) _).setCell (Nat.le_succ _) _).setCell (Nat.le_succ _) _).setCell (Nat.le_succ _) _⟩
/-- What the last region of the program's StoreFor reads. -/
def ForS (w : World) (gr oR j g o nr c0 n c1 : Nat) (fr to ep : Int) (s0 s1 s2 : Value) (x : World) : Prop :=
  (x.cell? ⟨w.heap.size, 0, none⟩ = some (.slice (some ⟨gr, oR, none⟩) nr c0) ∧ x.cell? ⟨w.heap.size, 1, none⟩ = some (.slice (some ⟨g, o, none⟩) n c1)) ∧ (x.cell? ⟨gr, oR + j * 3, none⟩ = some (.int .i64 fr) ∧ x.cell? ⟨gr, oR + j * 3 + 1, none⟩ = some (.int .i64 to) ∧ x.cell? ⟨gr, oR + j * 3 + 2, none⟩ = some (.int .i64 ep)) ∧ x.cell? ⟨g, o + j * 3, none⟩ = some s0 ∧ x.cell? ⟨g, o + j * 3 + 1, none⟩ = some s1 ∧ x.cell? ⟨g, o + j * 3 + 2, none⟩ = some s2
theorem ForS.kept {w x x' : World} {gr oR j g o nr c0 n c1 : Nat} {fr to ep : Int} {s0 s1 s2 : Value} (h : ForS w gr oR j g o nr c0 n c1 fr to ep s0 s1 s2 x) (hgr : gr < w.heap.size) (hg : g < w.heap.size) (hb : ∀ i, i ≤ w.heap.size → x'.heap[i]? = x.heap[i]?) : ForS w gr oR j g o nr c0 n c1 fr to ep s0 s1 s2 x' := by
  have k : ∀ b p, b ≤ w.heap.size → x'.cell? ⟨b, p, none⟩ = x.cell? ⟨b, p, none⟩ := fun b p hb' => World.cell?_of_block (w := x) (a := ⟨b, p, none⟩) (hb b hb')
  obtain ⟨⟨h0, h1⟩, ⟨h2, h3, h4⟩, h5, h6, h7⟩ := h
  exact ⟨⟨(k _ _ (Nat.le_refl _)).trans h0, (k _ _ (Nat.le_refl _)).trans h1⟩, ⟨(k _ _ (by omega)).trans h2, (k _ _ (by omega)).trans h3, (k _ _ (by omega)).trans h4⟩, (k _ _ (by omega)).trans h5, (k _ _ (by omega)).trans h6, (k _ _ (by omega)).trans h7⟩
set_option maxRecDepth 100000 in
set_option maxHeartbeats 8000000 in
theorem implStoreFor_is (nr : Nat) (F : Nat → Int) (n : Nat) (S : Nat → Sto) (V : Nat → Nat → Value) (vr vs : Value) (key c : Int) (R : Sto) (B : Nat) (w : World) (h : Grs w B nr F n S V vr vs) (hr : nr ≤ 9223372036854775807) (hn : n ≤ 9223372036854775807) (hA : ForAns nr F n S key c R) :
    Calls Tryz.prog 20 #[.agg #[vr, vs], .int .i64 key] w (ResSto w c R) := by
  have HG0 : Hid (Grs w B nr F n S V vr vs) := h
  obtain ⟨a0, c0, a1, c1, rfl, rfl⟩ := h.form
  have HE : Hid (CallGS w nr F n S V B (.slice a0 nr c0) (.slice a1 n c1) ((w.alloc (.cells #[.slice a0 nr c0, .slice a1 n c1] 31)).alloc (.cells #[.int .i64 0, .slice none 0 0, .slice none 0 0, .slice none 0 0] 52))) := CallGS.new h _ _
  clear h
  unfold ResSto
  obtain ⟨f, hf⟩ : ∃ f, groupsF nr F n S = f := ⟨_, rfl⟩
  have HF : Hid (groupsF nr F n S = f) := hf
  have hA : (f ≠ 0 ∧ c = f ∧ R = emptyS) ∨ (f = 0 ∧ faultOf key ≠ 0 ∧ c = faultOf key ∧ R = emptyS) ∨ (f = 0 ∧ faultOf key = 0 ∧ ∃ j, AtR nr F key j ∧ c = 0 ∧ R = S j) := by unfold ForAns at hA; rw [hf] at hA; exact hA
  obtain ⟨⟨p0, p1⟩, _⟩ := HE.out.1
  rcases hA with ⟨hz, hc, rfl⟩ | ⟨rfl, hz, hc, rfl⟩ | ⟨rfl, hz, j, hj, rfl, rfl⟩
  · subst hc
    have d : (c == 0) = false := beq_eq_false_iff_ne.2 hz
    have d' : (c != 0) = true := bne_iff_ne.2 hz
    clear hz HF
    go_enter Tryz.func20, Tryz.ntmps20
    go_wp2_with fail
    refine (implGroupsFault_any nr F n S V _ _ B _ HE.out.2.2.1 hr hn).mono ?_
    rw [hf]
    rintro e w1 ⟨rfl, q1⟩
    have HE : Hid (CallGS w nr F n S V B (.slice a0 nr c0) (.slice a1 n c1) w1) := HE.out.later q1
    clear q1 p0 p1 hf
    obtain ⟨⟨p0, p1⟩, _⟩ := HE.out.1
    obtain ⟨⟨r0, r1, r2, r3⟩, f0, f1, f2, f3⟩ := HE.out.2.1
    go_wp2
    exact bodyPost_ret (v := .agg #[.int .i64 c, .slice none 0 0, .slice none 0 0, .slice none 0 0]) (by simp [results, Tryz.results20, go_sem, r0, r1, r2, r3]) rfl ⟨none, 0, none, 0, none, 0, rfl, empty_sto _ _, (((HE.out.2.2.2.setCell (Nat.le_succ _) _).setCell (Nat.le_succ _) _).setCell (Nat.le_succ _) _).setCell (Nat.le_succ _) _⟩
  · have HK : Hid (faultOf key = c) := hc.symm
    have d : (c == 0) = false := beq_eq_false_iff_ne.2 (by rw [hc]; exact hz)
    have d' : (c != 0) = true := bne_iff_ne.2 (by rw [hc]; exact hz)
    clear hz HF hc
    go_enter Tryz.func20, Tryz.ntmps20
    go_wp2_with fail
    refine (implGroupsFault_any nr F n S V _ _ B _ HE.out.2.2.1 hr hn).mono ?_
    rw [hf]
    rintro e w1 ⟨rfl, q1⟩
    have HE : Hid (CallGS w nr F n S V B (.slice a0 nr c0) (.slice a1 n c1) w1) := HE.out.later q1
    clear q1 p0 p1 hf
    obtain ⟨⟨p0, p1⟩, _⟩ := HE.out.1
    go_wp2_with fail
    refine (keyFault_any key _).mono ?_
    rw [HK.out]
    rintro e w2 ⟨rfl, rfl⟩
    obtain ⟨⟨r0, r1, r2, r3⟩, f0, f1, f2, f3⟩ := HE.out.2.1
    go_wp2
    exact bodyPost_ret (v := .agg #[.int .i64 c, .slice none 0 0, .slice none 0 0, .slice none 0 0]) (by simp [results, Tryz.results20, go_sem, r0, r1, r2, r3]) rfl ⟨none, 0, none, 0, none, 0, rfl, empty_sto _ _, (((HE.out.2.2.2.setCell (Nat.le_succ _) _).setCell (Nat.le_succ _) _).setCell (Nat.le_succ _) _).setCell (Nat.le_succ _) _⟩
  · have HK : Hid (faultOf key = 0) := hz
    have Z := groupsF_zero HF.out
    have hjr : j < nr := hj.1
    have hjn : j < n := by have := Z.2.1; omega
    have HZ : Hid (((n ≤ 6 ∧ nr ≤ 6) ∧ AtR nr F key j) ∧ storeF (S j) = 0) := ⟨⟨⟨by have := Z.1.n6; have := Z.2.1; omega, Z.1.n6⟩, hj⟩, (Z.2.2.1 j hjn).1⟩
    clear Z HF hz hj
    go_enter Tryz.func20, Tryz.ntmps20
    go_wp2_with fail
    refine (implGroupsFault_any nr F n S V _ _ B _ HE.out.2.2.1 hr hn).mono ?_
    rw [hf]
    rintro e w1 ⟨rfl, q1⟩
    have HE : Hid (CallGS w nr F n S V B (.slice a0 nr c0) (.slice a1 n c1) w1) := HE.out.later q1
    clear q1 p0 p1 hf
    obtain ⟨⟨p0, p1⟩, _⟩ := HE.out.1
    go_wp2_with fail
    refine (keyFault_any key _).mono ?_
    rw [HK.out]
    rintro e w2 ⟨rfl, rfl⟩
    go_wp2_with fail
    refine (placeOf_is _ B nr F key j _ HE.out.2.2.1.1 HZ.out.1.2 (by have := HZ.out.1.1.2; omega)).mono ?_
    rintro e w3 ⟨rfl, rfl⟩
    obtain ⟨g, o, rfl, _, hg, ⟨b0, b1, b2⟩, sk⟩ := HG0.out.2.at hjn
    obtain ⟨gr, oR, rfl, _, hgr, t0, t1, t2⟩ := HG0.out.1.at3 hjr
    obtain ⟨i0', d0', i1', d1', i2', d2', e0', e1', e2'⟩ := sk.form
    rw [e0'] at b0
    rw [e1'] at b1
    rw [e2'] at b2
    rw [e0', e1', e2'] at sk
    obtain ⟨fr, hfr⟩ : ∃ x, F (j * 3) = x := ⟨_, rfl⟩
    obtain ⟨to, hto⟩ : ∃ x, F (j * 3 + 1) = x := ⟨_, rfl⟩
    obtain ⟨ep, hep⟩ : ∃ x, F (j * 3 + 2) = x := ⟨_, rfl⟩
    rw [hfr] at t0
    rw [hto] at t1
    rw [hep] at t2
    have SK : Hid (St w B (S j) (.slice i0' (S j).nc d0') (.slice i1' (S j).nl d1') (.slice i2' (S j).nw d2')) := sk
    have HB3 := HE.out.2.2.2
    have FS : Hid (ForS w gr oR j g o nr c0 n c1 fr to ep (.slice i0' (S j).nc d0') (.slice i1' (S j).nl d1') (.slice i2' (S j).nw d2') w3) := ⟨⟨p0, p1⟩, ⟨(HB3.cell (p := ⟨gr, oR + j * 3, none⟩) hgr).trans t0, (HB3.cell (p := ⟨gr, oR + j * 3 + 1, none⟩) hgr).trans t1, (HB3.cell (p := ⟨gr, oR + j * 3 + 2, none⟩) hgr).trans t2⟩, (HB3.cell (p := ⟨g, o + j * 3, none⟩) hg).trans b0, (HB3.cell (p := ⟨g, o + j * 3 + 1, none⟩) hg).trans b1, (HB3.cell (p := ⟨g, o + j * 3 + 2, none⟩) hg).trans b2⟩
    clear hfr hto hep sk e0' e1' e2' b0 b1 b2 t0 t1 t2 p0 p1 HG0 HB3
    go_wp2_with fail
    refine wp_region_held_drew (S := ForS w gr oR j g o nr c0 n c1 fr to ep (.slice i0' (S j).nc d0') (.slice i1' (S j).nl d1') (.slice i2' (S j).nw d2')) (by kernel_rfl) FS.out (fun hS => ?_)
    refine wpAnyH_take (i := 0) (v := ?_) rfl (by kernel_rfl) (by kernel_rfl) (by kernel_rfl) (fun _ _ _ h => h) (Or.inl ⟨by kernel_rfl, ?_⟩) hS ?_
    rotate_left
    · intro wx hx
      obtain ⟨⟨hx0, hx1⟩, ⟨hx2, hx3, hx4⟩, hx5, hx6, hx7⟩ := hx
      go_simp
      try with_reducible rfl
    refine wpAnyH_take (i := 1) (v := ?_) rfl (by kernel_rfl) (by kernel_rfl) (by kernel_rfl) (fun _ _ _ h => h) (Or.inl ⟨by kernel_rfl, ?_⟩) hS ?_
    rotate_left
    · intro wx hx
      obtain ⟨⟨hx0, hx1⟩, ⟨hx2, hx3, hx4⟩, hx5, hx6, hx7⟩ := hx
      go_simp
      try with_reducible rfl
    refine wpAnyH_take (i := 2) (v := ?_) rfl (by kernel_rfl) (by kernel_rfl) (by kernel_rfl) (fun _ _ _ h => h) (Or.inl ⟨by kernel_rfl, ?_⟩) hS ?_
    rotate_left
    · intro wx hx
      obtain ⟨⟨hx0, hx1⟩, ⟨hx2, hx3, hx4⟩, hx5, hx6, hx7⟩ := hx
      go_simp
      try with_reducible rfl
    refine wpAnyH_take (i := 3) (v := ?_) rfl (by kernel_rfl) (by kernel_rfl) (by kernel_rfl) (fun _ _ _ h => h) (Or.inl ⟨by kernel_rfl, ?_⟩) hS ?_
    rotate_left
    · intro wx hx
      obtain ⟨⟨hx0, hx1⟩, ⟨hx2, hx3, hx4⟩, hx5, hx6, hx7⟩ := hx
      go_simp
      try with_reducible rfl
    refine wpAnyH_take (i := 4) (v := ?_) rfl (by kernel_rfl) (by kernel_rfl) (by kernel_rfl) (fun _ _ _ h => h) (Or.inl ⟨by kernel_rfl, ?_⟩) hS ?_
    rotate_left
    · intro wx hx
      obtain ⟨⟨hx0, hx1⟩, ⟨hx2, hx3, hx4⟩, hx5, hx6, hx7⟩ := hx
      go_simp
      try with_reducible rfl
    refine wpAnyH_take (i := 5) (v := ?_) rfl (by kernel_rfl) (by kernel_rfl) (by kernel_rfl) (fun _ _ _ h => h) (Or.inl ⟨by kernel_rfl, ?_⟩) hS ?_
    rotate_left
    · intro wx hx
      obtain ⟨⟨hx0, hx1⟩, ⟨hx2, hx3, hx4⟩, hx5, hx6, hx7⟩ := hx
      go_simp
      try with_reducible rfl
    refine wpAnyH_take (i := 6) (v := ?_) rfl (by kernel_rfl) (by kernel_rfl) (by kernel_rfl) (fun _ _ _ h => h) (Or.inl ⟨by kernel_rfl, ?_⟩) hS ?_
    rotate_left
    · intro wx hx
      obtain ⟨⟨hx0, hx1⟩, ⟨hx2, hx3, hx4⟩, hx5, hx6, hx7⟩ := hx
      go_simp
      try with_reducible rfl
    refine wpAnyH_take (i := 7) (v := ?_) rfl (by kernel_rfl) (by kernel_rfl) (by kernel_rfl) (fun _ _ _ h => h) (Or.inl ⟨by kernel_rfl, ?_⟩) hS ?_
    rotate_left
    · intro wx hx
      obtain ⟨⟨hx0, hx1⟩, ⟨hx2, hx3, hx4⟩, hx5, hx6, hx7⟩ := hx
      go_simp
      try with_reducible rfl
    refine wpAnyH_take (i := 8) (v := ?_) rfl (by kernel_rfl) (by kernel_rfl) (by kernel_rfl) (fun _ _ _ h => h) (Or.inl ⟨by kernel_rfl, ?_⟩) hS ?_
    rotate_left
    · intro wx hx
      obtain ⟨⟨hx0, hx1⟩, ⟨hx2, hx3, hx4⟩, hx5, hx6, hx7⟩ := hx
      go_simp
      try with_reducible rfl
    refine wpAnyH_take (i := 9) (v := ?_) rfl (by kernel_rfl) (by kernel_rfl) (by kernel_rfl) (fun _ _ _ h => h) (Or.inl ⟨by kernel_rfl, ?_⟩) hS ?_
    rotate_left
    · intro wx hx
      obtain ⟨⟨hx0, hx1⟩, ⟨hx2, hx3, hx4⟩, hx5, hx6, hx7⟩ := hx
      go_simp
      try with_reducible rfl
    refine wpAnyH_ready (rs := [10]) (by kernel_rfl) (by simp) ?_
    refine AllReadyH.cons rfl (fun K hK => ?_) AllReadyH.nil
    go_simp
    go_wp2_with fail
    refine (pointTo_is (S j) _ _ _ fr to ep B _ ((SK.out.later HE.out.2.2.2).later (below_dr (Below.refl _ _) 1)) HZ.out.2).mono ?_
    rintro e w4 ⟨b, gm, u1, u2, rfl, hRS, q4⟩
    have q4' : Below w3.heap.size w3 w4 := ⟨q4.os, q4.tape, q4.output, q4.size, q4.block⟩
    have HR4 : Hid (ColsO w4 w3.heap.size b 3 (S j).nc (cellM (S j) (S j).nc) (S j).nl (S j).l (S j).nw (S j).k gm u1 u2) := hRS.2.1
    have HE4 : Hid (CallGS w nr F n S V B (.slice (some ⟨gr, oR, none⟩) nr c0) (.slice (some ⟨g, o, none⟩) n c1) w4) := HE.out.later q4'
    have hz3 : w.heap.size + 2 ≤ w3.heap.size := HE.out.2.1.lt
    have hS' := hS.kept hgr hg (fun i hi => q4'.block i (by omega))
    clear q4 q4' hRS
    go_wp2_with fail
    refine hK.out _ _ hS' (fun hS => ?_)
    clear hK K hS'
    refine wpAnyH_take (i := 11) (v := ?_) rfl (by kernel_rfl) (by kernel_rfl) (by kernel_rfl) (fun _ _ _ h => h) (Or.inl ⟨by kernel_rfl, ?_⟩) hS ?_
    rotate_left
    · intro wx hx
      obtain ⟨⟨hx0, hx1⟩, ⟨hx2, hx3, hx4⟩, hx5, hx6, hx7⟩ := hx
      go_simp
      try with_reducible rfl
    refine wpAnyH_take (i := 12) (v := ?_) rfl (by kernel_rfl) (by kernel_rfl) (by kernel_rfl) (fun _ _ _ h => h) (Or.inl ⟨by kernel_rfl, ?_⟩) hS ?_
    rotate_left
    · intro wx hx
      obtain ⟨⟨hx0, hx1⟩, ⟨hx2, hx3, hx4⟩, hx5, hx6, hx7⟩ := hx
      go_simp
      try with_reducible rfl
    refine wpAnyH_ready (rs := [13]) (by kernel_rfl) (by simp) ?_
    refine AllReadyH.cons rfl (fun K hK => ?_) AllReadyH.nil
    go_simp
    have Z := storeF_zero HZ.out.2
    go_wp2_with fail
    refine (store_isO _ b 3 _ _ _ _ _ _ gm u1 u2 _ HR4.out Z.1.2.1 Z.1.2.2 (by have := Z.1.1; omega) (S j).nc (S j).c (mapSelf Z.2.1)).mono ?_
    rintro e w5 ⟨d0, e0, d1, e1, d2, e2, rfl, ⟨s3, f3', a3⟩, q5⟩
    have HE5 : Hid (CallGS w nr F n S V B (.slice (some ⟨gr, oR, none⟩) nr c0) (.slice (some ⟨g, o, none⟩) n c1) w5) := HE4.out.later q5
    have hz4 : w.heap.size + 2 ≤ w4.heap.size := HE4.out.2.1.lt
    have S5 : Hid ((St w5 (w.heap.size + 2) (S j) (.slice d0 (S j).nc e0) (.slice d1 (S j).nl e1) (.slice d2 (S j).nw e2) ∧ FreeS w5 (S j) (.slice d0 (S j).nc e0) (.slice d1 (S j).nl e1) (.slice d2 (S j).nw e2)) ∧ ApartD (S j) (.slice d0 (S j).nc e0) (.slice d1 (S j).nl e1) (.slice d2 (S j).nw e2)) := ⟨⟨s3.mono hz4, f3'⟩, a3⟩
    have hS' := hS.kept hgr hg (fun i hi => q5.block i (by omega))
    clear q5 s3 f3' a3 Z HR4 HE4
    go_wp2_with fail
    refine hK.out _ _ hS' (fun hS => ?_)
    clear hK K hS'
    refine wpAnyH_take (i := 14) (v := ?_) rfl (by kernel_rfl) (by kernel_rfl) (by kernel_rfl) (fun _ _ _ h => h) (Or.inl ⟨by kernel_rfl, ?_⟩) hS ?_
    rotate_left
    · intro wx hx
      obtain ⟨⟨hx0, hx1⟩, ⟨hx2, hx3, hx4⟩, hx5, hx6, hx7⟩ := hx
      go_simp
      try with_reducible rfl
    obtain ⟨⟨r0, r1, r2, r3⟩, f0, f1, f2, f3⟩ := HE5.out.2.1
    refine wpAnyH_ready (rs := [15]) (by kernel_rfl) (by simp) ?_
    refine AllReadyH.cons rfl (fun K hK => ?_) AllReadyH.nil
    go_simp
    have kp : ∀ (X : World) (p : Nat) (u : Value) (i : Nat), i ≤ w.heap.size → (X.setCell ⟨w.heap.size + 1, p, none⟩ u).heap[i]? = X.heap[i]? := fun X p u i hi => Below.heap_setCell X ⟨w.heap.size + 1, p, none⟩ u i (by show i ≠ w.heap.size + 1; omega)
    refine hK.out _ _ (hS.kept hgr hg (fun i hi => (kp _ _ _ i hi).trans ((kp _ _ _ i hi).trans ((kp _ _ _ i hi).trans (kp _ _ _ i hi))))) (fun hS => ?_)
    clear hK K
    refine wpAnyH_done (by kernel_rfl) ?_ _
    clear hS kp
    go_simp
    have hlo : (w.heap.size + 1 : Nat) < w.heap.size + 2 := Nat.lt_succ_self _
    go_wp2
    exact bodyPost_ret (v := .agg #[.int .i64 0, .slice d0 (S j).nc e0, .slice d1 (S j).nl e1, .slice d2 (S j).nw e2]) (by simp [results, Tryz.results20, go_sem, r0, r1, r2, r3]) rfl ⟨d0, e0, d1, e1, d2, e2, rfl, ⟨((((S5.out.1.1.far hlo _).far hlo _).far hlo _).far hlo _).mono (by omega), (((S5.out.1.2.far _ _).far _ _).far _ _).far _ _, S5.out.2⟩, (((HE5.out.2.2.2.setCell (Nat.le_succ _) _).setCell (Nat.le_succ _) _).setCell (Nat.le_succ _) _).setCell (Nat.le_succ _) _⟩
theorem ForAns.get (nr : Nat) (F : Nat → Int) (n : Nat) (S : Nat → Sto) (key : Int) : ∃ c R, SmallS R ∧ ForAns nr F n S key c R := by
  have small : SmallS emptyS := by unfold SmallS emptyS; decide
  by_cases hz : groupsF nr F n S = 0
  · have Z := groupsF_zero hz
    by_cases hk : faultOf key = 0
    · obtain ⟨j, hj⟩ := Z.1.at (key := key) (by have := (faultOf_zero hk).2; omega)
      have hs := storeF_zero (Z.2.2.1 j (by have := hj.1; have := Z.2.1; omega)).1
      exact ⟨0, S j, by unfold SmallS; have := hs.1; omega, Or.inr (Or.inr ⟨hz, hk, j, hj, rfl, rfl⟩)⟩
    · exact ⟨_, emptyS, small, Or.inr (Or.inl ⟨hz, hk, rfl, rfl⟩)⟩
  · exact ⟨_, emptyS, small, Or.inl ⟨hz, rfl, rfl⟩⟩
end Go.Proofs.YtkaeolbnafhjaaaGreat
