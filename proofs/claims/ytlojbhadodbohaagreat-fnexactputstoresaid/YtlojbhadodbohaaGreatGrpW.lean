/-
  Own text, merged of GrpT, GrpU, GrpV, GrpW.
-/
import Derived.Test.YtlojbhadodbohaaGreatGrpR
namespace Go.Proofs.YtlojbhadodbohaaGreat
section
open Go.RowKit Go.Maps
-- Own text. What the program's pointToAll answers: a row of pointers to the stores that are worked on.
theorem Own.keptB {w w' : World} {B : Nat} {e : TypeId} {m n : Nat} {F : Nat → Int} {v : Value} (h : Own w B e m n F v) (hb : ∀ q, B ≤ q → q < w.heap.size → w'.heap[q]? = w.heap[q]?) : Own w' B e m n F v := by
  refine ⟨h.1, ?_⟩
  rcases h.2 with q | ⟨g, cap, cur, rfl, hg, hw, r⟩
  · exact Or.inl q
  · exact Or.inr ⟨g, cap, cur, rfl, hg, (hb g hg (Array.getElem?_eq_some_iff.1 hw).1).trans hw, r⟩
theorem RSt.keptB {x x' : World} {B b : Nat} {fr to ep : Int} {N : Nat} {m : Int → Int → Option Int} {nl : Nat} {l : Nat → Int} {nw : Nat} {k : Nat → Int} {g : Nat} {u1 u2 : Value} (h : RSt x B b fr to ep N m nl l nw k g u1 u2) (hb : ∀ q, B ≤ q → q < x.heap.size → x'.heap[q]? = x.heap[q]?) : RSt x' B b fr to ep N m nl l nw k g u1 u2 := by
  obtain ⟨⟨h0, h1, h2⟩, ⟨c1, c2, c3, c4, c5, c6⟩, h4⟩ := h
  have e := hb b c1 c3.lt
  exact ⟨⟨(World.cell?_of_block (w := x) (a := ⟨b, 0, none⟩) e).trans h0, (World.cell?_of_block (w := x) (a := ⟨b, 1, none⟩) e).trans h1, (World.cell?_of_block (w := x) (a := ⟨b, 2, none⟩) e).trans h2⟩, ⟨c1, c2, c3.kept e, c4.kept (hb g c2 c4.lt), c5.keptB hb, c6.keptB hb⟩, h4⟩
theorem RSt.mono {x : World} {B B' b : Nat} {fr to ep : Int} {N : Nat} {m : Int → Int → Option Int} {nl : Nat} {l : Nat → Int} {nw : Nat} {k : Nat → Int} {g : Nat} {u1 u2 : Value} (h : RSt x B b fr to ep N m nl l nw k g u1 u2) (hB : B' ≤ B) : RSt x B' b fr to ep N m nl l nw k g u1 u2 :=
  ⟨h.1, ⟨Nat.le_trans hB h.2.1.1, Nat.le_trans hB h.2.1.2.1, h.2.1.2.2.1, h.2.1.2.2.2.1, h.2.1.2.2.2.2.1.mono hB, h.2.1.2.2.2.2.2.mono hB⟩, h.2.2⟩
theorem Told.keptB {x x' : World} {B n : Nat} {F : Nat → Int} {S : Nat → Sto} {P : Nat → Nat} (h : Told x B n F S P) (hb : ∀ q, B ≤ q → q < x.heap.size → x'.heap[q]? = x.heap[q]?) : Told x' B n F S P := fun i hi => by
  obtain ⟨N, m, g, u1, u2, h1, h2, h3⟩ := h i hi
  exact ⟨N, m, g, u1, u2, h1, h2, h3.keptB hb⟩
theorem Told.later {x x' : World} {B n : Nat} {F : Nat → Int} {S : Nat → Sto} {P : Nat → Nat} (h : Told x B n F S P) (hb : Below x.heap.size x x') : Told x' B n F S P := h.keptB (fun q _ hq => hb.block q hq)
theorem Told.mono {x : World} {B B' n : Nat} {F : Nat → Int} {S : Nat → Sto} {P : Nat → Nat} (h : Told x B n F S P) (hB : B' ≤ B) : Told x B' n F S P := fun i hi => by
  obtain ⟨N, m, g, u1, u2, h1, h2, h3⟩ := h i hi
  exact ⟨N, m, g, u1, u2, h1, h2, h3.mono hB⟩
/-- One more store that is worked on. -/
theorem Told.put {x : World} {B k b : Nat} {F : Nat → Int} {S : Nat → Sto} {P : Nat → Nat} (h : Told x B k F S P) {fr to ep : Int} (hF : F (k * 3) = fr ∧ F (k * 3 + 1) = to ∧ F (k * 3 + 2) = ep) (hz : storeF (S k) = 0) {g : Nat} {u1 u2 : Value} (hr : RSt x B b fr to ep (S k).nc (cellM (S k) (S k).nc) (S k).nl (S k).l (S k).nw (S k).k g u1 u2) : Told x B (k + 1) F S (fun i => if i = k then b else P i) := fun i hi => by
  have Z := storeF_zero hz
  by_cases q : i = k
  · subst q
    simp only [if_pos]
    rw [hF.1, hF.2.1, hF.2.2]
    exact ⟨(S i).nc, cellM (S i) (S i).nc, g, u1, u2, ⟨by have := Z.1.1; omega, Z.1.2.1, Z.1.2.2⟩, mapSelf Z.2.1, hr⟩
  · simp only [if_neg q]
    exact h i (by omega)
/-- A new row of pointers, k of them laid. -/
def FillP (w : World) (g n k : Nat) (P : Nat → Nat) : Prop := g < w.heap.size ∧ (∀ p, p < n → (∃ u, w.cell? ⟨g, p, none⟩ = some u) ∧ w.frozen? ⟨g, p, none⟩ = false) ∧ ∀ i, i < k → w.cell? ⟨g, i, none⟩ = some (.pointer (some ⟨P i, 0, none⟩))
theorem FillP.later {w w' : World} {g n k : Nat} {P : Nat → Nat} (h : FillP w g n k P) (hb : Below w.heap.size w w') : FillP w' g n k P := by
  obtain ⟨h1, h2, h3⟩ := h
  refine ⟨Nat.lt_of_lt_of_le h1 hb.size, fun p hp => ⟨?_, (hb.frozen (p := ⟨g, p, none⟩) h1).trans (h2 p hp).2⟩, fun i hi => (hb.cell (p := ⟨g, i, none⟩) h1).trans (h3 i hi)⟩
  obtain ⟨u, hu⟩ := (h2 p hp).1
  exact ⟨u, (hb.cell (p := ⟨g, p, none⟩) h1).trans hu⟩
theorem FillP.made (w : World) (z : Array Value) (n : Nat) (e : TypeId) (P : Nat → Nat) : FillP (w.alloc (.cells (madeCells z n) e)) w.heap.size n 0 P := by
  refine ⟨by simp, fun p hp => ⟨⟨(madeCells z n)[p]'(by rw [size_madeCells]; omega), ?_⟩, by simp⟩, fun p hp => absurd hp (Nat.not_lt_zero p)⟩
  rw [World.cell?_alloc_mark]
  simp
theorem FillP.at {w : World} {g n k p : Nat} {P : Nat → Nat} (h : FillP w g n k P) (hp : p < n) : ∃ u, w.cell? ⟨g, p, none⟩ = some u ∧ w.frozen? ⟨g, p, none⟩ = false := by
  obtain ⟨⟨u, hu⟩, hf⟩ := h.2.1 p hp
  exact ⟨u, hu, hf⟩
theorem FillP.put {w : World} {g n k : Nat} {P : Nat → Nat} (h : FillP w g n k P) (hk : k < n) (b : Nat) : FillP (w.setCell ⟨g, k, none⟩ (.pointer (some ⟨b, 0, none⟩))) g n (k + 1) (fun i => if i = k then b else P i) := by
  obtain ⟨h1, h2, h3⟩ := h
  obtain ⟨u, hu⟩ := (h2 k hk).1
  refine ⟨by simpa [World.setCell] using h1, fun p hp => ⟨?_, by simp [(h2 p hp).2]⟩, fun i hi => ?_⟩
  · obtain ⟨v, hv⟩ := (h2 p hp).1
    by_cases q : p = k
    · subst q
      exact ⟨_, World.cell?_setCell_same _ _ _ hu⟩
    · exact ⟨v, by rw [World.cell?_setCell_other _ _ _ _ (by intro e; simp at e; first | done | omega)]; exact hv⟩
  · by_cases q : i = k
    · subst q
      simp only [if_pos]
      exact World.cell?_setCell_same _ _ _ hu
    · simp only [if_neg q]
      rw [World.cell?_setCell_other _ _ _ _ (by intro e; simp at e; first | done | omega)]
      exact h3 i (by omega)
theorem info_Ptr : (Tryz.prog.info? 99).map (fun i => (i.zero, i.size, i.bytes)) = some (some (.pointer none), 1, 8) := by kernel_rfl
/-- What the region that points reads: the groups' box, the store's copy in block b, the range. -/
def PtaE (w : World) (vr vs : Value) (b : Nat) (s0 s1 s2 : Value) (gr oR k : Nat) (fr to ep : Int) (x : World) : Prop :=
  Blk2 x w.heap.size vr vs ∧ Blk3 x b s0 s1 s2 ∧ x.cell? ⟨gr, oR + k * 3, none⟩ = some (.int .i64 fr) ∧ x.cell? ⟨gr, oR + k * 3 + 1, none⟩ = some (.int .i64 to) ∧ x.cell? ⟨gr, oR + k * 3 + 2, none⟩ = some (.int .i64 ep)
theorem PtaE.kept {w x x' : World} {vr vs : Value} {b : Nat} {s0 s1 s2 : Value} {gr oR k : Nat} {fr to ep : Int} (h : PtaE w vr vs b s0 s1 s2 gr oR k fr to ep x) (hb : ∀ q, q = w.heap.size ∨ q = b ∨ q = gr → x'.heap[q]? = x.heap[q]?) : PtaE w vr vs b s0 s1 s2 gr oR k fr to ep x' := by
  obtain ⟨h1, h2, h3, h4, h5⟩ := h
  have e := hb gr (Or.inr (Or.inr rfl))
  exact ⟨h1.kept (hb _ (Or.inl rfl)), h2.kept (hb _ (Or.inr (Or.inl rfl))), (World.cell?_of_block (w := x) (a := ⟨gr, oR + k * 3, none⟩) e).trans h3, (World.cell?_of_block (w := x) (a := ⟨gr, oR + k * 3 + 1, none⟩) e).trans h4, (World.cell?_of_block (w := x) (a := ⟨gr, oR + k * 3 + 2, none⟩) e).trans h5⟩
/-- Where the row of pointers stands, k of them laid. -/
def PtaT (w : World) (vr vs : Value) (n k : Nat) (F : Nat → Int) (S : Nat → Sto) (x : World) : Prop :=
  (Below w.heap.size w x ∧ Blk2 x w.heap.size vr vs) ∧ ∃ P, FillP x (w.heap.size + 1) n k P ∧ Told x (w.heap.size + 2) k F S P
set_option maxRecDepth 100000 in
set_option maxHeartbeats 8000000 in
theorem pointToAll_is (nr : Nat) (F : Nat → Int) (n : Nat) (S : Nat → Sto) (V : Nat → Nat → Value) (vr vs : Value) (B : Nat) (w : World) (h : Grs w B nr F n S V vr vs) (hz : ∀ i, i < n → storeF (S i) = 0) (hn : n = nr) (hm : n ≤ 12) :
    Calls Tryz.prog 47 #[.agg #[vr, vs]] w fun e w' => ∃ g P, e = .returned (.slice (some ⟨g, 0, none⟩) n n) ∧ PtrRow w' n (some ⟨g, 0, none⟩) P ∧ Told w' w.heap.size n F S P ∧ Below w.heap.size w w' := by
  obtain ⟨a0, c0, a1, c1, rfl, rfl⟩ := h.form
  have HG : Hid (Grs w B nr F n S V (.slice a0 nr c0) (.slice a1 n c1)) := h
  have HZ : Hid (∀ i, i < n → storeF (S i) = 0) := hz
  have HM : Hid (n = nr) := hn
  clear h hz hn
  have hmk := make_row Tryz.underlying81 info_Ptr n (by omega) (by omega)
  have b0 : Hid (Blk2 (w.alloc (.cells #[.slice a0 nr c0, .slice a1 n c1] 36)) w.heap.size (.slice a0 nr c0) (.slice a1 n c1)) := Blk2.new w (.slice a0 nr c0) (.slice a1 n c1) 36
  obtain ⟨⟨p0, p1⟩, _⟩ := b0.out
  have q0 := (b0.out.alloc (.cells (madeCells #[Value.pointer none] n) 99)).1
  obtain ⟨q0, q1⟩ := q0
  go_enter Tryz.func47, Tryz.ntmps47
  go_wp2
  go_loopw [13] (fun i wr => ∃ k : Nat, k ≤ n ∧ i = .int .i64 k ∧ Hid (PtaT w (.slice a0 nr c0) (.slice a1 n c1) n k F S wr)) (fun i _ => n - (intOf i).toNat)
  case atStart =>
    refine ⟨0, Nat.zero_le _, rfl, ⟨(below_alloc _ _).alloc (by simp) _, b0.out.alloc _⟩, fun _ => 0, ?_, fun i hi => absurd hi (Nat.not_lt_zero i)⟩
    have := FillP.made (w.alloc (.cells #[.slice a0 nr c0, .slice a1 n c1] 36)) #[Value.pointer none] n 99 (fun _ => 0)
    rwa [World.size_alloc] at this
  case round =>
    obtain ⟨k, hk, rfl, hR⟩ := hrel
    by_cases hlt : k < n
    · have hkr : k < nr := by have := HM.out; omega
      obtain ⟨g, o, rfl, _, hg, ⟨b0', b1', b2'⟩, sk⟩ := HG.out.2.at hlt
      obtain ⟨gr, oR, rfl, _, hgr, t0, t1, t2⟩ := HG.out.1.at3 hkr
      obtain ⟨i0', d0', i1', d1', i2', d2', e0', e1', e2'⟩ := sk.form
      rw [e0'] at b0'
      rw [e1'] at b1'
      rw [e2'] at b2'
      rw [e0', e1', e2'] at sk
      obtain ⟨fr, hfr⟩ : ∃ x, F (k * 3) = x := ⟨_, rfl⟩
      obtain ⟨to, hto⟩ : ∃ x, F (k * 3 + 1) = x := ⟨_, rfl⟩
      obtain ⟨ep, hep⟩ : ∃ x, F (k * 3 + 2) = x := ⟨_, rfl⟩
      rw [hfr] at t0
      rw [hto] at t1
      rw [hep] at t2
      have HF : Hid (F (k * 3) = fr ∧ F (k * 3 + 1) = to ∧ F (k * 3 + 2) = ep) := ⟨hfr, hto, hep⟩
      have y0 := (hR.out.1.1.cell (p := ⟨g, o + k * 3, none⟩) hg).trans b0'
      have y1 := (hR.out.1.1.cell (p := ⟨g, o + k * 3 + 1, none⟩) hg).trans b1'
      have y2 := (hR.out.1.1.cell (p := ⟨g, o + k * 3 + 2, none⟩) hg).trans b2'
      have x0 := (hR.out.1.1.cell (p := ⟨gr, oR + k * 3, none⟩) hgr).trans t0
      have x1 := (hR.out.1.1.cell (p := ⟨gr, oR + k * 3 + 1, none⟩) hgr).trans t1
      have x2 := (hR.out.1.1.cell (p := ⟨gr, oR + k * 3 + 2, none⟩) hgr).trans t2
      obtain ⟨n0, hn0⟩ : ∃ x, (S k).nc = x := ⟨_, rfl⟩
      obtain ⟨n1, hn1⟩ : ∃ x, (S k).nl = x := ⟨_, rfl⟩
      obtain ⟨n2, hn2⟩ : ∃ x, (S k).nw = x := ⟨_, rfl⟩
      rw [hn0] at y0
      rw [hn1] at y1
      rw [hn2] at y2
      rw [hn0, hn1, hn2] at sk
      have SK : Hid (St wr B (S k) (.slice i0' n0 d0') (.slice i1' n1 d1') (.slice i2' n2 d2')) := sk.later hR.out.1.1
      clear hfr hto hep sk e0' e1' e2' b0' b1' b2' t0 t1 t2 hn0 hn1 hn2
      have zz : Hid (w.heap.size + 2 ≤ wr.heap.size) := by obtain ⟨_, P, hF, _⟩ := hR.out; have := hF.1; unfold Hid; omega
      have ZW : Hid (gr < w.heap.size) := hgr
      have HS0 : Hid (PtaE w (.slice (some ⟨gr, oR, none⟩) nr c0) (.slice (some ⟨g, o, none⟩) n c1) wr.heap.size (.slice i0' n0 d0') (.slice i1' n1 d1') (.slice i2' n2 d2') gr oR k fr to ep (wr.alloc (.cells #[.slice i0' n0 d0', .slice i1' n1 d1', .slice i2' n2 d2'] 45))) := ⟨hR.out.1.2.alloc _, Blk3.new wr _ _ _ _, ((below_alloc wr _).cell (p := ⟨gr, oR + k * 3, none⟩) (by show gr < wr.heap.size; have := zz.out; have := ZW.out; omega)).trans x0, ((below_alloc wr _).cell (p := ⟨gr, oR + k * 3 + 1, none⟩) (by show gr < wr.heap.size; have := zz.out; have := ZW.out; omega)).trans x1, ((below_alloc wr _).cell (p := ⟨gr, oR + k * 3 + 2, none⟩) (by show gr < wr.heap.size; have := zz.out; have := ZW.out; omega)).trans x2⟩
      clear x0 x1 x2 hg hgr p0 p1 q0 q1 hmk
      go_upto_region 5 with fail
      refine wp_region_held_drew (S := PtaE w (.slice (some ⟨gr, oR, none⟩) nr c0) (.slice (some ⟨g, o, none⟩) n c1) wr.heap.size (.slice i0' n0 d0') (.slice i1' n1 d1') (.slice i2' n2 d2') gr oR k fr to ep) (by kernel_rfl) (HS0.out.kept (fun _ _ => rfl)) (fun hS => ?_)
      clear y0 y1 y2
      refine wpAnyH_take (i := 0) (v := ?_) rfl (by kernel_rfl) (by kernel_rfl) (by kernel_rfl) (fun _ _ _ h => h) (Or.inl ⟨by kernel_rfl, ?_⟩) hS ?_
      rotate_left
      · intro wx hx
        obtain ⟨⟨⟨hx0, hx1⟩, _⟩, ⟨⟨hx2, hx3, hx4⟩, _⟩, hx5, hx6, hx7⟩ := hx
        go_simp
        try with_reducible rfl
      refine wpAnyH_take (i := 1) (v := ?_) rfl (by kernel_rfl) (by kernel_rfl) (by kernel_rfl) (fun _ _ _ h => h) (Or.inl ⟨by kernel_rfl, ?_⟩) hS ?_
      rotate_left
      · intro wx hx
        obtain ⟨⟨⟨hx0, hx1⟩, _⟩, ⟨⟨hx2, hx3, hx4⟩, _⟩, hx5, hx6, hx7⟩ := hx
        go_simp
        try with_reducible rfl
      refine wpAnyH_take (i := 2) (v := ?_) rfl (by kernel_rfl) (by kernel_rfl) (by kernel_rfl) (fun _ _ _ h => h) (Or.inl ⟨by kernel_rfl, ?_⟩) hS ?_
      rotate_left
      · intro wx hx
        obtain ⟨⟨⟨hx0, hx1⟩, _⟩, ⟨⟨hx2, hx3, hx4⟩, _⟩, hx5, hx6, hx7⟩ := hx
        go_simp
        try with_reducible rfl
      refine wpAnyH_take (i := 3) (v := ?_) rfl (by kernel_rfl) (by kernel_rfl) (by kernel_rfl) (fun _ _ _ h => h) (Or.inl ⟨by kernel_rfl, ?_⟩) hS ?_
      rotate_left
      · intro wx hx
        obtain ⟨⟨⟨hx0, hx1⟩, _⟩, ⟨⟨hx2, hx3, hx4⟩, _⟩, hx5, hx6, hx7⟩ := hx
        go_simp
        try with_reducible rfl
      refine wpAnyH_take (i := 4) (v := ?_) rfl (by kernel_rfl) (by kernel_rfl) (by kernel_rfl) (fun _ _ _ h => h) (Or.inl ⟨by kernel_rfl, ?_⟩) hS ?_
      rotate_left
      · intro wx hx
        obtain ⟨⟨⟨hx0, hx1⟩, _⟩, ⟨⟨hx2, hx3, hx4⟩, _⟩, hx5, hx6, hx7⟩ := hx
        go_simp
        try with_reducible rfl
      refine wpAnyH_take (i := 5) (v := ?_) rfl (by kernel_rfl) (by kernel_rfl) (by kernel_rfl) (fun _ _ _ h => h) (Or.inl ⟨by kernel_rfl, ?_⟩) hS ?_
      rotate_left
      · intro wx hx
        obtain ⟨⟨⟨hx0, hx1⟩, _⟩, ⟨⟨hx2, hx3, hx4⟩, _⟩, hx5, hx6, hx7⟩ := hx
        go_simp
        try with_reducible rfl
      refine wpAnyH_take (i := 6) (v := ?_) rfl (by kernel_rfl) (by kernel_rfl) (by kernel_rfl) (fun _ _ _ h => h) (Or.inl ⟨by kernel_rfl, ?_⟩) hS ?_
      rotate_left
      · intro wx hx
        obtain ⟨⟨⟨hx0, hx1⟩, _⟩, ⟨⟨hx2, hx3, hx4⟩, _⟩, hx5, hx6, hx7⟩ := hx
        go_simp
        try with_reducible rfl
      refine wpAnyH_take (i := 7) (v := ?_) rfl (by kernel_rfl) (by kernel_rfl) (by kernel_rfl) (fun _ _ _ h => h) (Or.inl ⟨by kernel_rfl, ?_⟩) hS ?_
      rotate_left
      · intro wx hx
        obtain ⟨⟨⟨hx0, hx1⟩, _⟩, ⟨⟨hx2, hx3, hx4⟩, _⟩, hx5, hx6, hx7⟩ := hx
        go_simp
        try with_reducible rfl
      refine wpAnyH_ready (rs := [8]) (by kernel_rfl) (by simp) ?_
      refine AllReadyH.cons rfl (fun K hK => ?_) AllReadyH.nil
      go_simp
      go_wp2_with fail
      refine (pointTo_is (S k) _ _ _ fr to ep B _ (SK.out.later ((below_alloc _ _).drew)) (HZ.out k hlt)).mono ?_
      rintro e w4 ⟨b, gm, u1, u2, rfl, hRS, q4⟩
      have q4' : Below wr.heap.size wr w4 := (below_alloc wr _).trans (Below.mono ⟨q4.os, q4.tape, q4.output, q4.size, q4.block⟩ (by simp))
      have z4 : Hid (wr.heap.size ≤ w4.heap.size) := q4'.size
      have RS : Hid (RSt w4 (w.heap.size + 2) b fr to ep (S k).nc (cellM (S k) (S k).nc) (S k).nl (S k).l (S k).nw (S k).k gm u1 u2) := hRS.mono (by have := zz.out; simp; omega)
      have R4 : Hid ((Below w.heap.size w w4 ∧ Blk2 w4 w.heap.size (.slice (some ⟨gr, oR, none⟩) nr c0) (.slice (some ⟨g, o, none⟩) n c1)) ∧ ∃ P, FillP w4 (w.heap.size + 1) n k P ∧ Told w4 (w.heap.size + 2) k F S P) := by
        obtain ⟨⟨h1, h2⟩, P, h3, h4⟩ := hR.out
        exact ⟨⟨h1.trans (q4'.mono h1.size), h2.later q4'⟩, P, h3.later q4', h4.later q4'⟩
      have hS' := hS.kept (x' := w4) (fun q hq => q4.block q (by have := zz.out; have := ZW.out; simp; rcases hq with e | e | e <;> omega))
      clear q4 q4' hRS hR HS0 SK
      go_wp2_with fail
      refine hK.out _ _ hS' (fun hS => ?_)
      clear hK K hS'
      refine wpAnyH_take (i := 9) (v := ?_) rfl (by kernel_rfl) (by kernel_rfl) (by kernel_rfl) (fun _ _ _ h => h) (Or.inl ⟨by kernel_rfl, ?_⟩) hS ?_
      rotate_left
      · intro wx hx
        obtain ⟨⟨⟨hx0, hx1⟩, _⟩, ⟨⟨hx2, hx3, hx4⟩, _⟩, hx5, hx6, hx7⟩ := hx
        go_simp
        try with_reducible rfl
      obtain ⟨⟨h1, h2⟩, P, h3, h4⟩ := R4.out
      obtain ⟨ux, x0, x1⟩ := h3.at hlt
      have R5 : Hid (PtaT w (.slice (some ⟨gr, oR, none⟩) nr c0) (.slice (some ⟨g, o, none⟩) n c1) n (k + 1) F S (w4.setCell ⟨w.heap.size + 1, k, none⟩ (.pointer (some ⟨b, 0, none⟩)))) := ⟨⟨h1.setCell (Nat.le_succ _) _, h2.kept (Below.heap_setCell _ _ _ _ (by show w.heap.size ≠ w.heap.size + 1; omega))⟩, _, h3.put hlt b, (h4.put HF.out (HZ.out k hlt) RS.out).keptB (fun q hq _ => Below.heap_setCell _ _ _ q (by show q ≠ w.heap.size + 1; omega))⟩
      clear h1 h2 h3 h4 R4 RS
      refine wpAnyH_ready (rs := [10]) (by kernel_rfl) (by simp) ?_
      refine AllReadyH.cons rfl (fun K hK => ?_) AllReadyH.nil
      go_simp
      have hS' := hS.kept (x' := w4.setCell ⟨w.heap.size + 1, k, none⟩ (.pointer (some ⟨b, 0, none⟩))) (fun q hq => Below.heap_setCell _ _ _ q (by show q ≠ w.heap.size + 1; have := zz.out; have := ZW.out; rcases hq with e | e | e <;> omega))
      refine hK.out _ _ hS' (fun hS => ?_)
      clear hK K hS'
      refine wpAnyH_done (by kernel_rfl) ?_ _
      clear hS x0 x1
      go_simp
      generalize w4.setCell ⟨w.heap.size + 1, k, none⟩ (.pointer (some ⟨b, 0, none⟩)) = x4 at R5 ⊢
      go_wp2
      go_roundw
      case rel => exact ⟨k + 1, by omega, by go_num, R5⟩
      case measure => simp [intOf]; omega
    · obtain rfl : k = n := by omega
      go_wp2
      go_ret
      obtain ⟨⟨hB, _⟩, P, hF, hT⟩ := hR.out
      exact ⟨w.heap.size + 1, P, rfl, fun _ => ⟨_, _, rfl, hF.1, fun i hi => by rw [Nat.zero_add]; exact hF.2.2 i hi⟩, hT.mono (by omega), hB⟩
end

section
open Go.RowKit Go.Maps
-- Own text. PutStore, the program's side: a clone of the row of stores, one store put into it.
theorem listU_inv {V : Nat → Nat → Value} {n j : Nat} {u : Value} (h : (listU V n)[j]? = some u) : ∃ i r, i < n ∧ r < 3 ∧ j = i * 3 + r ∧ u = V i r := by
  have hj : j < n * 3 := by
    have := (List.getElem?_eq_some_iff.1 h).1
    rw [listU_len] at this
    exact this
  obtain ⟨h0, h1, h2⟩ := listU_at V n (j / 3) (by omega)
  have e : j = j / 3 * 3 + j % 3 := by omega
  have hr : j % 3 = 0 ∨ j % 3 = 1 ∨ j % 3 = 2 := by omega
  rcases hr with r | r | r
  · refine ⟨j / 3, 0, by omega, by omega, by omega, ?_⟩
    rw [show j / 3 * 3 = j by omega, h] at h0
    exact Option.some.inj h0
  · refine ⟨j / 3, 1, by omega, by omega, by omega, ?_⟩
    rw [show j / 3 * 3 + 1 = j by omega, h] at h1
    exact Option.some.inj h1
  · refine ⟨j / 3, 2, by omega, by omega, by omega, ?_⟩
    rw [show j / 3 * 3 + 2 = j by omega, h] at h2
    exact Option.some.inj h2
theorem St.slices {w : World} {B : Nat} {S : Sto} {u0 u1 u2 : Value} (h : St w B S u0 u1 u2) : u0.oneCell' = true ∧ u1.oneCell' = true ∧ u2.oneCell' = true := by
  obtain ⟨a0, c0, a1, c1, a2, c2, rfl, rfl, rfl⟩ := h.form
  exact ⟨rfl, rfl, rfl⟩
theorem Stos.one {w : World} {B n : Nat} {S : Nat → Sto} {V : Nat → Nat → Value} {v : Value} (h : Stos w B n S V v) : ∀ u ∈ listU V n, u.oneCell' = true := fun u hu => by
  obtain ⟨j, hj⟩ := List.getElem?_of_mem hu
  obtain ⟨i, r, hi, hr, _, rfl⟩ := listU_inv hj
  obtain ⟨h0, h1, h2⟩ := (h.2 i hi).slices
  have hr : r = 0 ∨ r = 1 ∨ r = 2 := by omega
  rcases hr with rfl | rfl | rfl
  · exact h0
  · exact h1
  · exact h2
theorem Stos.cells {w : World} {B n : Nat} {S : Nat → Sto} {V : Nat → Nat → Value} {a : Addr} {cp : Nat} (h : Stos w B n S V (.slice (some a) n cp)) : ∀ j u, (listU V n)[j]? = some u → w.cell? (a.add j) = some u := fun j u hu => by
  obtain ⟨i, r, hi, hr, rfl, rfl⟩ := listU_inv hu
  obtain ⟨ao, cp', hv, h'⟩ := h.1
  obtain ⟨g, o, rfl, _, _, hc⟩ := h' (by omega)
  simp only [Value.slice.injEq, Option.some.injEq] at hv
  obtain ⟨rfl, _⟩ := hv
  rw [WideShapes.add_plain]
  obtain ⟨h0, h1, h2⟩ := hc i hi
  have hr : r = 0 ∨ r = 1 ∨ r = 2 := by omega
  rcases hr with rfl | rfl | rfl
  · exact h0
  · rw [← Nat.add_assoc]; exact h1
  · rw [← Nat.add_assoc]; exact h2
set_option maxRecDepth 100000 in
theorem cloneStores_is (n : Nat) (S : Nat → Sto) (V : Nat → Nat → Value) (v : Value) (B : Nat) (w : World) (h : Stos w B n S V v) (hp : 0 < n) (hn : n ≤ 1048576) :
    Calls Tryz.prog 45 #[v] w fun e w' => ∃ g cp, e = .returned (.slice (some ⟨g, 0, none⟩) n cp) ∧ OwnV w' w.heap.size (.slice (some ⟨g, 0, none⟩) n cp) n V ∧ Below w.heap.size w w' := by
  obtain ⟨ao, cp, rfl⟩ := h.form
  obtain ⟨a, rfl⟩ : ∃ a, ao = some a := by
    obtain ⟨ao', cp', hv, h'⟩ := h.1
    obtain ⟨g, o, rfl, _⟩ := h' hp
    simp only [Value.slice.injEq] at hv
    exact ⟨_, hv.1⟩
  have H : Hid (Stos w B n S V (.slice (some a) n cp)) := h
  clear h
  have he : ∀ w : World, (binOp .eql 34 (.slice (some a) n cp) (.slice none 0 0)).run Tryz.prog w = .ok (.bool false) w := fun _ => rfl
  obtain ⟨i0, hi, hz0, hz1, hz2⟩ := info_parts info_Store
  go_enter Tryz.func45, Tryz.ntmps45
  go_wp2_with (at_builtin; refine wpList_append_own _ rfl _ _ 34 rfl w.heap.size 45 i0 (.agg #[.slice none 0 0, .slice none 0 0, .slice none 0 0]) 3 72 Tryz.underlying34 hi hz0 hz1 hz2 rfl (by decide) _ 0 [] rfl (own_empty w 45 3) a n cp (listU V n) rfl (listU_len _ _) (H.out.alloc _).cells H.out.one ?c3 ?c4 ?c5 ?_)
  case c3 => unfold maxLen; omega
  case c4 => omega
  case c5 => simp
  intro v' w1 ho hg _
  have ho' : OwnV w1 w.heap.size v' n V := by simpa [OwnV] using ho
  have hq : ∃ g cq, v' = .slice (some ⟨g, 0, none⟩) n cq := by
    rcases ho'.2 with ⟨_, q⟩ | ⟨g, cap, cur, rfl, _⟩
    · exact absurd q (by omega)
    · exact ⟨g, cap, rfl⟩
  obtain ⟨g, cq, rfl⟩ := hq
  go_wp2
  go_ret
  exact ⟨g, cq, rfl, ho', below_grownBy (below_alloc w _) (by simp) (fun b hb => by simp [Value.ownBlock] at hb; omega) hg⟩
theorem FillS.set {w : World} {g n k : Nat} {U : Nat → Nat → Value} (h : FillS w g n n U) (hk : k < n) (u0 u1 u2 : Value) : FillS (((w.setCell ⟨g, k * 3, none⟩ u0).setCell ⟨g, k * 3 + 1, none⟩ u1).setCell ⟨g, k * 3 + 2, none⟩ u2) g n n (putU U k u0 u1 u2) := by
  have h' : FillS w g n k U := ⟨h.1, h.2.1, fun i hi => h.2.2 i (by omega)⟩
  have hp := h'.put hk u0 u1 u2
  refine ⟨hp.1, hp.2.1, fun i hi => ?_⟩
  by_cases q : i < k + 1
  · exact hp.2.2 i q
  · have other : ∀ p, k * 3 + 3 ≤ p → (((w.setCell ⟨g, k * 3, none⟩ u0).setCell ⟨g, k * 3 + 1, none⟩ u1).setCell ⟨g, k * 3 + 2, none⟩ u2).cell? ⟨g, p, none⟩ = w.cell? ⟨g, p, none⟩ := fun p hp =>
      (World.cell?_setCell_other _ _ _ _ (by intro q; simp at q; try omega)).trans ((World.cell?_setCell_other _ _ _ _ (by intro q; simp at q; try omega)).trans (World.cell?_setCell_other _ _ _ _ (by intro q; simp at q; try omega)))
    obtain ⟨d0, d1, d2⟩ := h.2.2 i hi
    unfold putU
    rw [if_neg (by omega), if_neg (by omega), if_neg (by omega)]
    exact ⟨(other _ (by omega)).trans d0, (other _ (by omega)).trans d1, (other _ (by omega)).trans d2⟩
/-- The groups with another store at place j. -/
def putT (S : Nat → Sto) (j : Nat) (T : Sto) (i : Nat) : Sto := if i = j then T else S i
theorem stos_put {x : World} {B n j g cc : Nat} {S : Nat → Sto} {T : Sto} {V : Nat → Nat → Value} {v0 v1 v2 : Value} (hf : FillS x g n n (putU V j v0 v1 v2)) (hg : B ≤ g) (hs : ∀ i, i < n → St x B (S i) (V i 0) (V i 1) (V i 2)) (ht : St x B T v0 v1 v2) : Stos x B n (putT S j T) (putU V j v0 v1 v2) (.slice (some ⟨g, 0, none⟩) n cc) :=
  ⟨⟨_, _, rfl, fun _ => ⟨g, 0, rfl, hg, hf.1, fun i hi => by
    simp only [Nat.zero_add]
    exact hf.2.2 i hi⟩⟩, fun i hi => by
    unfold putT putU
    by_cases q : i = j
    · simp only [if_pos q]
      exact ht
    · simp only [if_neg q]
      exact hs i hi⟩
def PutAns (nr : Nat) (F : Nat → Int) (n : Nat) (S : Nat → Sto) (pl : Int) (T : Sto) (c : Int) (nr' : Nat) (F' : Nat → Int) (n' : Nat) (R : Nat → Sto) : Prop :=
  ((groupsF nr F n S ≠ 0 ∧ c = groupsF nr F n S ∨ groupsF nr F n S = 0 ∧ ¬ (0 ≤ pl ∧ pl < n) ∧ c = 3 ∨ groupsF nr F n S = 0 ∧ ∃ j : Nat, pl = j ∧ j < n ∧ groupsF nr F n (putT S j T) ≠ 0 ∧ c = groupsF nr F n (putT S j T)) ∧ nr' = 0 ∧ n' = 0) ∨
  (groupsF nr F n S = 0 ∧ ∃ j : Nat, pl = j ∧ j < n ∧ groupsF nr F n (putT S j T) = 0 ∧ c = 0 ∧ nr' = nr ∧ F' = F ∧ n' = n ∧ R = putT S j T)
def CallP (w : World) (vr vs t0 t1 t2 : Value) (x : World) : Prop := Blk2 x w.heap.size vr vs ∧ Blk3 x (w.heap.size + 1) t0 t1 t2 ∧ Blk3 x (w.heap.size + 2) (.int .i64 0) (.slice none 0 0) (.slice none 0 0) ∧ Below w.heap.size w x
theorem CallP.kept {w x x' : World} {vr vs t0 t1 t2 : Value} (h : CallP w vr vs t0 t1 t2 x) (hb : Below (w.heap.size + 3) x x') : CallP w vr vs t0 t1 t2 x' :=
  ⟨h.1.kept (hb.block _ (by omega)), h.2.1.kept (hb.block _ (by omega)), h.2.2.1.kept (hb.block _ (by omega)), h.2.2.2.trans (hb.mono (by omega))⟩
theorem CallP.sz {w x : World} {vr vs t0 t1 t2 : Value} (h : CallP w vr vs t0 t1 t2 x) : w.heap.size + 3 ≤ x.heap.size := h.2.2.1.lt
theorem CallP.later {w x x' : World} {vr vs t0 t1 t2 : Value} (h : CallP w vr vs t0 t1 t2 x) (hb : Below x.heap.size x x') : CallP w vr vs t0 t1 t2 x' := h.kept (hb.mono h.sz)
theorem CallP.new (w : World) (vr vs t0 t1 t2 : Value) (t t' t'' : TypeId) : CallP w vr vs t0 t1 t2 (((w.alloc (.cells #[vr, vs] t)).alloc (.cells #[t0, t1, t2] t')).alloc (.cells #[.int .i64 0, .slice none 0 0, .slice none 0 0] t'')) := by
  refine ⟨((Blk2.new _ _ _ _).alloc _).alloc _, ?_, ?_, ((below_alloc _ _).alloc (by simp) _).alloc (by simp; omega) _⟩
  · have := Blk3.new (w.alloc (.cells #[vr, vs] t)) t0 t1 t2 t'
    rw [World.size_alloc] at this
    exact this.alloc _
  · have := Blk3.new ((w.alloc (.cells #[vr, vs] t)).alloc (.cells #[t0, t1, t2] t')) (.int .i64 0) (.slice none 0 0) (.slice none 0 0) t''
    rw [World.size_alloc, World.size_alloc] at this
    exact this
set_option maxRecDepth 100000 in
set_option maxHeartbeats 8000000 in
theorem implPutStore_bad (nr : Nat) (F : Nat → Int) (n : Nat) (S : Nat → Sto) (V : Nat → Nat → Value) (vr vs : Value) (pl : Int) (T : Sto) (t0 t1 t2 : Value) (c : Int) (F' : Nat → Int) (R : Nat → Sto) (B : Nat) (w : World) (h : Grs w B nr F n S V vr vs) (hs : St w B T t0 t1 t2) (hr : nr ≤ 9223372036854775807) (hn : n ≤ 9223372036854775807) (hA : groupsF nr F n S ≠ 0 ∧ c = groupsF nr F n S ∨ groupsF nr F n S = 0 ∧ ¬ (0 ≤ pl ∧ pl < n) ∧ c = 3) :
    Calls Tryz.prog 12 #[.agg #[vr, vs], .int .i64 pl, .agg #[t0, t1, t2]] w (ResGr w c 0 F' 0 R) := by
  obtain ⟨a0, c0, a1, c1, rfl, rfl⟩ := h.form
  obtain ⟨i0, k0, i1, k1, i2, k2, rfl, rfl, rfl⟩ := hs.form
  have HG : Hid (Grs w B nr F n S V (.slice a0 nr c0) (.slice a1 n c1)) := h
  have HT : Hid (St w B T (.slice i0 T.nc k0) (.slice i1 T.nl k1) (.slice i2 T.nw k2)) := hs
  obtain ⟨m0, hm0⟩ : ∃ x, T.nc = x := ⟨_, rfl⟩
  obtain ⟨m1, hm1⟩ : ∃ x, T.nl = x := ⟨_, rfl⟩
  obtain ⟨m2, hm2⟩ : ∃ x, T.nw = x := ⟨_, rfl⟩
  rw [hm0, hm1, hm2] at HT ⊢
  clear hm0 hm1 hm2
  have HE : Hid (CallP w (.slice a0 nr c0) (.slice a1 n c1) (.slice i0 m0 k0) (.slice i1 m1 k1) (.slice i2 m2 k2) (((w.alloc (.cells #[.slice a0 nr c0, .slice a1 n c1] 36)).alloc (.cells #[.slice i0 m0 k0, .slice i1 m1 k1, .slice i2 m2 k2] 45)).alloc (.cells #[.int .i64 0, .slice none 0 0, .slice none 0 0] 38))) := CallP.new w _ _ _ _ _ _ _ _
  clear h hs
  obtain ⟨f, hf⟩ : ∃ f, groupsF nr F n S = f := ⟨_, rfl⟩
  have HF : Hid (groupsF nr F n S = f) := hf
  obtain ⟨⟨p0, p1⟩, _⟩ := HE.out.1
  rcases hA with ⟨hz, hc⟩ | ⟨hz, hp, rfl⟩
  · rw [hf] at hz hc
    subst hc
    have d : (c == 0) = false := beq_eq_false_iff_ne.2 hz
    have d' : (c != 0) = true := bne_iff_ne.2 hz
    clear hz HF
    go_enter Tryz.func12, Tryz.ntmps12
    go_wp2_with fail
    refine (implGroupsFault_any nr F n S V _ _ B _ (HG.out.later HE.out.2.2.2) hr hn).mono ?_
    rw [hf]
    rintro e w1 ⟨rfl, q1⟩
    have HE : Hid (CallP w (.slice a0 nr c0) (.slice a1 n c1) (.slice i0 m0 k0) (.slice i1 m1 k1) (.slice i2 m2 k2) w1) := HE.out.later q1
    clear q1 p0 p1 hf
    obtain ⟨⟨p0, p1⟩, _⟩ := HE.out.1
    obtain ⟨⟨r0, r1, r2⟩, f0, f1, f2⟩ := HE.out.2.2.1
    go_wp2
    exact bodyPost_ret (v := .agg #[.int .i64 c, .slice none 0 0, .slice none 0 0]) (by simp [results, Tryz.results12, go_sem, r0, r1, r2]) rfl (resGr_nil rfl (((HE.out.2.2.2.setCell (Nat.le_add_right _ 2) _).setCell (Nat.le_add_right _ 2) _).setCell (Nat.le_add_right _ 2) _))
  · rw [hf] at hz
    subst hz
    clear HF
    by_cases hl : pl < 0
    · have dl : decide (pl < 0) = true := decide_eq_true hl
      clear hl hp
      go_enter Tryz.func12, Tryz.ntmps12
      go_wp2_with fail
      refine (implGroupsFault_any nr F n S V _ _ B _ (HG.out.later HE.out.2.2.2) hr hn).mono ?_
      rw [hf]
      rintro e w1 ⟨rfl, q1⟩
      have HE : Hid (CallP w (.slice a0 nr c0) (.slice a1 n c1) (.slice i0 m0 k0) (.slice i1 m1 k1) (.slice i2 m2 k2) w1) := HE.out.later q1
      clear q1 p0 p1 hf
      obtain ⟨⟨p0, p1⟩, _⟩ := HE.out.1
      obtain ⟨⟨r0, r1, r2⟩, f0, f1, f2⟩ := HE.out.2.2.1
      go_wp2
      exact bodyPost_ret (v := .agg #[.int .i64 3, .slice none 0 0, .slice none 0 0]) (by simp [results, Tryz.results12, go_sem, r0, r1, r2]) rfl (resGr_nil rfl (((HE.out.2.2.2.setCell (Nat.le_add_right _ 2) _).setCell (Nat.le_add_right _ 2) _).setCell (Nat.le_add_right _ 2) _))
    · have dl : decide (pl < 0) = false := decide_eq_false hl
      have dg : decide ((n : Int) ≤ pl) = true := decide_eq_true (by omega)
      clear hl hp
      go_enter Tryz.func12, Tryz.ntmps12
      go_wp2_with fail
      refine (implGroupsFault_any nr F n S V _ _ B _ (HG.out.later HE.out.2.2.2) hr hn).mono ?_
      rw [hf]
      rintro e w1 ⟨rfl, q1⟩
      have HE : Hid (CallP w (.slice a0 nr c0) (.slice a1 n c1) (.slice i0 m0 k0) (.slice i1 m1 k1) (.slice i2 m2 k2) w1) := HE.out.later q1
      clear q1 p0 p1 hf
      obtain ⟨⟨p0, p1⟩, _⟩ := HE.out.1
      obtain ⟨⟨r0, r1, r2⟩, f0, f1, f2⟩ := HE.out.2.2.1
      go_wp2
      exact bodyPost_ret (v := .agg #[.int .i64 3, .slice none 0 0, .slice none 0 0]) (by simp [results, Tryz.results12, go_sem, r0, r1, r2]) rfl (resGr_nil rfl (((HE.out.2.2.2.setCell (Nat.le_add_right _ 2) _).setCell (Nat.le_add_right _ 2) _).setCell (Nat.le_add_right _ 2) _))
set_option maxRecDepth 100000 in
set_option maxHeartbeats 16000000 in
theorem implPutStore_full (nr : Nat) (F : Nat → Int) (n : Nat) (S : Nat → Sto) (V : Nat → Nat → Value) (vr vs : Value) (j : Nat) (T : Sto) (t0 t1 t2 : Value) (c : Int) (F' : Nat → Int) (R : Nat → Sto) (B : Nat) (w : World) (h : Grs w B nr F n S V vr vs) (hs : St w B T t0 t1 t2) (hr : nr ≤ 9223372036854775807) (hn : n ≤ 9223372036854775807) (hj : j < n) (hz : groupsF nr F n S = 0) (hc : groupsF nr F n (putT S j T) = c) (hc0 : c ≠ 0) :
    Calls Tryz.prog 12 #[.agg #[vr, vs], .int .i64 (j : Int), .agg #[t0, t1, t2]] w (ResGr w c 0 F' 0 R) := by
  have HC : Hid (c ≠ 0) := hc0
  clear hc0
  obtain ⟨a0, c0, a1, c1, rfl, rfl⟩ := h.form
  obtain ⟨i0, k0, i1, k1, i2, k2, rfl, rfl, rfl⟩ := hs.form
  have HG : Hid (Grs w B nr F n S V (.slice a0 nr c0) (.slice a1 n c1)) := h
  have HT : Hid (St w B T (.slice i0 T.nc k0) (.slice i1 T.nl k1) (.slice i2 T.nw k2)) := hs
  obtain ⟨m0, hm0⟩ : ∃ x, T.nc = x := ⟨_, rfl⟩
  obtain ⟨m1, hm1⟩ : ∃ x, T.nl = x := ⟨_, rfl⟩
  obtain ⟨m2, hm2⟩ : ∃ x, T.nw = x := ⟨_, rfl⟩
  rw [hm0, hm1, hm2] at HT ⊢
  clear hm0 hm1 hm2
  have HE : Hid (CallP w (.slice a0 nr c0) (.slice a1 n c1) (.slice i0 m0 k0) (.slice i1 m1 k1) (.slice i2 m2 k2) (((w.alloc (.cells #[.slice a0 nr c0, .slice a1 n c1] 36)).alloc (.cells #[.slice i0 m0 k0, .slice i1 m1 k1, .slice i2 m2 k2] 45)).alloc (.cells #[.int .i64 0, .slice none 0 0, .slice none 0 0] 38))) := CallP.new w _ _ _ _ _ _ _ _
  clear h hs
  obtain ⟨f, hf⟩ : ∃ f, groupsF nr F n S = f := ⟨_, rfl⟩
  have HF : Hid (groupsF nr F n S = f) := hf
  obtain ⟨⟨p0, p1⟩, _⟩ := HE.out.1
  rw [hf] at hz
  subst hz
  have Z := groupsF_zero HF.out
  have N6 : Hid (n ≤ 6 ∧ n = nr) := ⟨by have := Z.1.n6; have := Z.2.1; omega, Z.2.1⟩
  have HQ : Hid (groupsF nr F n (putT S j T) = c) := hc
  have dl : decide ((j : Int) < 0) = false := decide_eq_false (by omega)
  have dg : decide ((n : Int) ≤ (j : Int)) = false := decide_eq_false (by omega)
  clear Z HF hc
  go_enter Tryz.func12, Tryz.ntmps12
  go_wp2_with fail
  refine (implGroupsFault_any nr F n S V _ _ B _ (HG.out.later HE.out.2.2.2) hr hn).mono ?_
  rw [hf]
  rintro e w1 ⟨rfl, q1⟩
  have HE : Hid (CallP w (.slice a0 nr c0) (.slice a1 n c1) (.slice i0 m0 k0) (.slice i1 m1 k1) (.slice i2 m2 k2) w1) := HE.out.later q1
  clear q1 p0 p1 hf
  obtain ⟨⟨p0, p1⟩, _⟩ := HE.out.1
  obtain ⟨⟨r0, r1, r2⟩, f0, f1, f2⟩ := HE.out.2.2.1
  go_upto_region 6 with fail
  refine wp_region_held_drew (S := fun x => Blk2 x w.heap.size (.slice a0 nr c0) (.slice a1 n c1)) (by kernel_rfl) (HE.out.1.kept rfl) (fun hS => ?_)
  clear p0 p1 r0 r1 r2 f0 f1 f2
  refine wpAnyH_take (i := 0) (v := ?_) rfl (by kernel_rfl) (by kernel_rfl) (by kernel_rfl) (fun _ _ _ h => h) (Or.inl ⟨by kernel_rfl, ?_⟩) hS ?_
  rotate_left
  · intro wx hx
    obtain ⟨⟨hx0, hx1⟩, _⟩ := hx
    go_simp
    try with_reducible rfl
  refine wpAnyH_take (i := 1) (v := ?_) rfl (by kernel_rfl) (by kernel_rfl) (by kernel_rfl) (fun _ _ _ h => h) (Or.inl ⟨by kernel_rfl, ?_⟩) hS ?_
  rotate_left
  · intro wx hx
    obtain ⟨⟨hx0, hx1⟩, _⟩ := hx
    go_simp
    try with_reducible rfl
  refine wpAnyH_take (i := 2) (v := ?_) rfl (by kernel_rfl) (by kernel_rfl) (by kernel_rfl) (fun _ _ _ h => h) (Or.inl ⟨by kernel_rfl, ?_⟩) hS ?_
  rotate_left
  · intro wx hx
    obtain ⟨⟨hx0, hx1⟩, _⟩ := hx
    go_simp
    try with_reducible rfl
  refine wpAnyH_take (i := 3) (v := ?_) rfl (by kernel_rfl) (by kernel_rfl) (by kernel_rfl) (fun _ _ _ h => h) (Or.inl ⟨by kernel_rfl, ?_⟩) hS ?_
  rotate_left
  · intro wx hx
    obtain ⟨⟨hx0, hx1⟩, _⟩ := hx
    go_simp
    try with_reducible rfl
  refine wpAnyH_ready (rs := [4, 6]) (by kernel_rfl) (by simp) ?_
  refine AllReadyH.cons rfl (fun K hK => ?_) (AllReadyH.cons rfl (fun K hK => ?_) AllReadyH.nil)
  · go_simp
    go_wp2_with fail
    refine (cloneStores_is n S V _ B _ (HG.out.2.later (HE.out.2.2.2.drew)) (by omega) (by have := N6.out; omega)).mono ?_
    rintro e w4 ⟨gc, cc, rfl, ho, q4⟩
    have q4' : Below w1.heap.size w1 w4 := ⟨q4.os, q4.tape, q4.output, q4.size, q4.block⟩
    have z4 := HE.out.sz
    have gcb := ho.block gc rfl
    have HE8 : Hid (CallP w (.slice a0 nr c0) (.slice a1 n c1) (.slice i0 m0 k0) (.slice i1 m1 k1) (.slice i2 m2 k2) (w4.alloc (.cells #[.slice a0 nr c0, .slice (some ⟨gc, 0, none⟩) n cc] 36))) := (HE.out.later q4').later (below_alloc _ _)
    have B8 : Hid (Blk2 (w4.alloc (.cells #[.slice a0 nr c0, .slice (some ⟨gc, 0, none⟩) n cc] 36)) w4.heap.size (.slice a0 nr c0) (.slice (some ⟨gc, 0, none⟩) n cc)) := Blk2.new _ _ _ _
    have FC0 : FillS (w4.alloc (.cells #[.slice a0 nr c0, .slice (some ⟨gc, 0, none⟩) n cc] 36)) gc n n V ∧ w.heap.size + 3 ≤ gc := ⟨ho.fill.later (below_alloc _ _), by have := gcb.1; exact Nat.le_trans z4 this⟩
    have gb8 : gc ≠ w4.heap.size ∧ w.heap.size + 3 ≤ w4.heap.size := ⟨by have := gcb.2; omega, Nat.le_trans z4 q4'.size⟩
    have hS4 := (HE.out.later q4').1
    have hS5 : Blk2 (w4.alloc (.cells #[.slice none 0 0, .slice none 0 0] 36)) w.heap.size (.slice a0 nr c0) (.slice a1 n c1) := hS4.alloc _
    clear ho q4 q4' gcb z4 HE
    go_wp2_with fail
    refine hK.out _ _ hS4 (fun hS => ?_)
    clear hK K hS4
    refine wpAnyH_take (i := 5) (v := ?_) rfl (by kernel_rfl) (by kernel_rfl) (by kernel_rfl) (fun _ _ _ h => h) (Or.inl ⟨by kernel_rfl, ?_⟩) hS ?_
    rotate_left
    · intro wx hx
      obtain ⟨⟨hx0, hx1⟩, _⟩ := hx
      go_simp
      try with_reducible rfl
    refine wpAnyH_ready (rs := [6]) (by kernel_rfl) (by simp) ?_
    refine AllReadyH.cons rfl (fun K hK => ?_) AllReadyH.nil
    go_simp
    refine hK.out _ _ hS5 (fun hS => ?_)
    clear hK K hS5
    have hS8 := HE8.out.1
    refine wpAnyH_ready (rs := [7]) (by kernel_rfl) (by simp) ?_
    refine AllReadyH.cons rfl (fun K hK => ?_) AllReadyH.nil
    go_simp
    refine hK.out _ _ hS8 (fun hS => ?_)
    clear hK K hS8
    refine wpAnyH_done (by kernel_rfl) ?_ _
    clear hS
    try clear t0 t1 t2 t3
    go_simp
    generalize (w4.alloc (.cells #[.slice a0 nr c0, .slice (some ⟨gc, 0, none⟩) n cc] 36)) = x8 at HE8 B8 FC0 ⊢
    generalize hb8 : w4.heap.size = b8 at B8 gb8 ⊢
    clear hb8
    have FC : Hid ((FillS x8 gc n n V ∧ w.heap.size + 3 ≤ gc) ∧ gc ≠ b8 ∧ w.heap.size + 3 ≤ b8) := ⟨FC0, gb8⟩
    clear FC0 gb8
    obtain ⟨⟨s0, s1⟩, _⟩ := B8.out
    obtain ⟨⟨p2, p3, p4⟩, _⟩ := HE8.out.2.1
    obtain ⟨v0', v0e, z0⟩ := FC.out.1.1.at (p := j * 3) (by omega)
    obtain ⟨v1', v1e, z1⟩ := FC.out.1.1.at (p := j * 3 + 1) (by omega)
    obtain ⟨v2', v2e, z2⟩ := FC.out.1.1.at (p := j * 3 + 2) (by omega)
    have W : Hid (Below (w.heap.size + 3) x8 (((x8.setCell ⟨gc, j * 3, none⟩ (.slice i0 m0 k0)).setCell ⟨gc, j * 3 + 1, none⟩ (.slice i1 m1 k1)).setCell ⟨gc, j * 3 + 2, none⟩ (.slice i2 m2 k2))) := (((Below.refl _ _).setCell FC.out.1.2 _).setCell FC.out.1.2 _).setCell FC.out.1.2 _
    have HE9 : Hid (CallP w (.slice a0 nr c0) (.slice a1 n c1) (.slice i0 m0 k0) (.slice i1 m1 k1) (.slice i2 m2 k2) (((x8.setCell ⟨gc, j * 3, none⟩ (.slice i0 m0 k0)).setCell ⟨gc, j * 3 + 1, none⟩ (.slice i1 m1 k1)).setCell ⟨gc, j * 3 + 2, none⟩ (.slice i2 m2 k2))) := HE8.out.kept W.out
    have F9 : Hid (FillS (((x8.setCell ⟨gc, j * 3, none⟩ (.slice i0 m0 k0)).setCell ⟨gc, j * 3 + 1, none⟩ (.slice i1 m1 k1)).setCell ⟨gc, j * 3 + 2, none⟩ (.slice i2 m2 k2)) gc n n (putU V j (.slice i0 m0 k0) (.slice i1 m1 k1) (.slice i2 m2 k2))) := FC.out.1.1.set hj _ _ _
    have B9 : Hid (Blk2 (((x8.setCell ⟨gc, j * 3, none⟩ (.slice i0 m0 k0)).setCell ⟨gc, j * 3 + 1, none⟩ (.slice i1 m1 k1)).setCell ⟨gc, j * 3 + 2, none⟩ (.slice i2 m2 k2)) b8 (.slice a0 nr c0) (.slice (some ⟨gc, 0, none⟩) n cc)) := ((B8.out.kept (Below.heap_setCell _ _ _ _ (Ne.symm FC.out.2.1))).kept (Below.heap_setCell _ _ _ _ (Ne.symm FC.out.2.1))).kept (Below.heap_setCell _ _ _ _ (Ne.symm FC.out.2.1))
    clear W
    go_upto_region 8 with fail
    generalize ((x8.setCell ⟨gc, j * 3, none⟩ (.slice i0 m0 k0)).setCell ⟨gc, j * 3 + 1, none⟩ (.slice i1 m1 k1)).setCell ⟨gc, j * 3 + 2, none⟩ (.slice i2 m2 k2) = x9 at HE9 F9 B9 ⊢
    clear s0 s1 p2 p3 p4 v0e v1e v2e z0 z1 z2
    have G9 : Hid (Grs x9 0 nr F n (putT S j T) (putU V j (.slice i0 m0 k0) (.slice i1 m1 k1) (.slice i2 m2 k2)) (.slice a0 nr c0) (.slice (some ⟨gc, 0, none⟩) n cc)) := ⟨((HG.out.1.later HE9.out.2.2.2).mono (Nat.zero_le _)), stos_put F9.out (Nat.zero_le _) (fun i hi => ((HG.out.2.2 i hi).later HE9.out.2.2.2).mono (Nat.zero_le _)) ((HT.out.later HE9.out.2.2.2).mono (Nat.zero_le _))⟩
    clear F9 FC HE8 B8
    obtain ⟨⟨s0, s1⟩, _⟩ := B9.out
    go_wp2_with fail
    refine (implGroupsFault_any nr F n (putT S j T) _ _ _ 0 _ G9.out hr hn).mono ?_
    rw [HQ.out]
    rintro e x10 ⟨rfl, q10⟩
    have HE : Hid (CallP w (.slice a0 nr c0) (.slice a1 n c1) (.slice i0 m0 k0) (.slice i1 m1 k1) (.slice i2 m2 k2) x10) := HE9.out.later q10
    have G10 : Hid (Grs x10 0 nr F n (putT S j T) (putU V j (.slice i0 m0 k0) (.slice i1 m1 k1) (.slice i2 m2 k2)) (.slice a0 nr c0) (.slice (some ⟨gc, 0, none⟩) n cc)) := G9.out.later q10
    have B10 : Hid (Blk2 x10 b8 (.slice a0 nr c0) (.slice (some ⟨gc, 0, none⟩) n cc)) := B9.out.later q10
    clear q10 HE9 G9 B9 s0 s1
    obtain ⟨⟨r0, r1, r2⟩, f0, f1, f2⟩ := HE.out.2.2.1
    obtain ⟨⟨s0, s1⟩, _⟩ := B10.out
    have d : (c == 0) = false := beq_eq_false_iff_ne.2 HC.out
    have d' : (c != 0) = true := bne_iff_ne.2 HC.out
    go_wp2
    exact bodyPost_ret (v := .agg #[.int .i64 c, .slice none 0 0, .slice none 0 0]) (by simp [results, Tryz.results12, go_sem, r0, r1, r2]) rfl (resGr_nil rfl (((HE.out.2.2.2.setCell (Nat.le_add_right _ 2) _).setCell (Nat.le_add_right _ 2) _).setCell (Nat.le_add_right _ 2) _))
  · have Y0 : Hid (Blk2 (w1.alloc (.cells #[.slice none 0 0, .slice none 0 0] 36)).drew w1.heap.size (.slice none 0 0) (.slice none 0 0)) := (Blk2.new w1 _ _ _).kept rfl
    have HE0 : Hid (CallP w (.slice a0 nr c0) (.slice a1 n c1) (.slice i0 m0 k0) (.slice i1 m1 k1) (.slice i2 m2 k2) (w1.alloc (.cells #[.slice none 0 0, .slice none 0 0] 36)).drew) := HE.out.later (below_alloc _ _).drew
    have hS5 := HE0.out.1
    have zz1 : Hid (w.heap.size + 3 ≤ w1.heap.size) := HE.out.sz
    clear HE
    go_simp
    refine hK.out _ _ hS5 (fun hS => ?_)
    clear hK K hS5
    refine wpAnyH_ready (rs := [4]) (by kernel_rfl) (by simp) ?_
    refine AllReadyH.cons rfl (fun K hK => ?_) AllReadyH.nil
    go_simp
    go_wp2_with fail
    refine (cloneStores_is n S V _ B _ (HG.out.2.later HE0.out.2.2.2) (by omega) (by have := N6.out; omega)).mono ?_
    rintro e w4 ⟨gc, cc, rfl, ho, q4⟩
    have gcb := ho.block gc rfl
    have Y8 : Hid (Blk2 w4 w1.heap.size (.slice none 0 0) (.slice none 0 0)) := Y0.out.later q4
    have HEy : Hid (CallP w (.slice a0 nr c0) (.slice a1 n c1) (.slice i0 m0 k0) (.slice i1 m1 k1) (.slice i2 m2 k2) w4) := HE0.out.later q4
    have hgc : w1.heap.size + 1 ≤ gc := by have := gcb.1; simpa using this
    have gb8 : gc ≠ w1.heap.size ∧ w.heap.size + 3 ≤ w1.heap.size := ⟨by omega, zz1.out⟩
    have BW : Below (w.heap.size + 3) w4 ((w4.setCell ⟨w1.heap.size, 0, none⟩ (.slice a0 nr c0)).setCell ⟨w1.heap.size, 1, none⟩ (.slice (some ⟨gc, 0, none⟩) n cc)) := ((Below.refl _ _).setCell gb8.2 _).setCell gb8.2 _
    have HE8 : Hid (CallP w (.slice a0 nr c0) (.slice a1 n c1) (.slice i0 m0 k0) (.slice i1 m1 k1) (.slice i2 m2 k2) ((w4.setCell ⟨w1.heap.size, 0, none⟩ (.slice a0 nr c0)).setCell ⟨w1.heap.size, 1, none⟩ (.slice (some ⟨gc, 0, none⟩) n cc))) := HEy.out.kept BW
    have B8 : Hid (Blk2 ((w4.setCell ⟨w1.heap.size, 0, none⟩ (.slice a0 nr c0)).setCell ⟨w1.heap.size, 1, none⟩ (.slice (some ⟨gc, 0, none⟩) n cc)) w1.heap.size (.slice a0 nr c0) (.slice (some ⟨gc, 0, none⟩) n cc)) := Y8.out.put _ _
    have FC0 : FillS ((w4.setCell ⟨w1.heap.size, 0, none⟩ (.slice a0 nr c0)).setCell ⟨w1.heap.size, 1, none⟩ (.slice (some ⟨gc, 0, none⟩) n cc)) gc n n V ∧ w.heap.size + 3 ≤ gc := ⟨ho.fill.kept BW.size ((Below.heap_setCell _ _ _ _ gb8.1).trans (Below.heap_setCell _ _ _ _ gb8.1)), by have := zz1.out; omega⟩
    have hS5 := HEy.out.1
    clear BW
    clear ho q4 gcb hgc Y0 HE0
    go_wp2_with fail
    refine hK.out _ _ hS5 (fun hS => ?_)
    clear hK K hS5
    refine wpAnyH_take (i := 5) (v := ?_) rfl (by kernel_rfl) (by kernel_rfl) (by kernel_rfl) (fun _ _ _ h => h) (Or.inl ⟨by kernel_rfl, ?_⟩) hS ?_
    rotate_left
    · intro wx hx
      obtain ⟨⟨hx0, hx1⟩, _⟩ := hx
      go_simp
      try with_reducible rfl
    obtain ⟨⟨t0, t1⟩, t2, t3⟩ := Y8.out
    clear Y8 HEy
    have hS8 := HE8.out.1
    refine wpAnyH_ready (rs := [7]) (by kernel_rfl) (by simp) ?_
    refine AllReadyH.cons rfl (fun K hK => ?_) AllReadyH.nil
    go_simp
    refine hK.out _ _ hS8 (fun hS => ?_)
    clear hK K hS8
    refine wpAnyH_done (by kernel_rfl) ?_ _
    clear hS
    try clear t0 t1 t2 t3
    go_simp
    generalize ((w4.setCell ⟨w1.heap.size, 0, none⟩ (.slice a0 nr c0)).setCell ⟨w1.heap.size, 1, none⟩ (.slice (some ⟨gc, 0, none⟩) n cc)) = x8 at HE8 B8 FC0 ⊢
    generalize hb8 : w1.heap.size = b8 at B8 gb8 ⊢
    clear hb8
    have FC : Hid ((FillS x8 gc n n V ∧ w.heap.size + 3 ≤ gc) ∧ gc ≠ b8 ∧ w.heap.size + 3 ≤ b8) := ⟨FC0, gb8⟩
    clear FC0 gb8
    obtain ⟨⟨s0, s1⟩, _⟩ := B8.out
    obtain ⟨⟨p2, p3, p4⟩, _⟩ := HE8.out.2.1
    obtain ⟨v0', v0e, z0⟩ := FC.out.1.1.at (p := j * 3) (by omega)
    obtain ⟨v1', v1e, z1⟩ := FC.out.1.1.at (p := j * 3 + 1) (by omega)
    obtain ⟨v2', v2e, z2⟩ := FC.out.1.1.at (p := j * 3 + 2) (by omega)
    have W : Hid (Below (w.heap.size + 3) x8 (((x8.setCell ⟨gc, j * 3, none⟩ (.slice i0 m0 k0)).setCell ⟨gc, j * 3 + 1, none⟩ (.slice i1 m1 k1)).setCell ⟨gc, j * 3 + 2, none⟩ (.slice i2 m2 k2))) := (((Below.refl _ _).setCell FC.out.1.2 _).setCell FC.out.1.2 _).setCell FC.out.1.2 _
    have HE9 : Hid (CallP w (.slice a0 nr c0) (.slice a1 n c1) (.slice i0 m0 k0) (.slice i1 m1 k1) (.slice i2 m2 k2) (((x8.setCell ⟨gc, j * 3, none⟩ (.slice i0 m0 k0)).setCell ⟨gc, j * 3 + 1, none⟩ (.slice i1 m1 k1)).setCell ⟨gc, j * 3 + 2, none⟩ (.slice i2 m2 k2))) := HE8.out.kept W.out
    have F9 : Hid (FillS (((x8.setCell ⟨gc, j * 3, none⟩ (.slice i0 m0 k0)).setCell ⟨gc, j * 3 + 1, none⟩ (.slice i1 m1 k1)).setCell ⟨gc, j * 3 + 2, none⟩ (.slice i2 m2 k2)) gc n n (putU V j (.slice i0 m0 k0) (.slice i1 m1 k1) (.slice i2 m2 k2))) := FC.out.1.1.set hj _ _ _
    have B9 : Hid (Blk2 (((x8.setCell ⟨gc, j * 3, none⟩ (.slice i0 m0 k0)).setCell ⟨gc, j * 3 + 1, none⟩ (.slice i1 m1 k1)).setCell ⟨gc, j * 3 + 2, none⟩ (.slice i2 m2 k2)) b8 (.slice a0 nr c0) (.slice (some ⟨gc, 0, none⟩) n cc)) := ((B8.out.kept (Below.heap_setCell _ _ _ _ (Ne.symm FC.out.2.1))).kept (Below.heap_setCell _ _ _ _ (Ne.symm FC.out.2.1))).kept (Below.heap_setCell _ _ _ _ (Ne.symm FC.out.2.1))
    clear W
    go_upto_region 8 with fail
    generalize ((x8.setCell ⟨gc, j * 3, none⟩ (.slice i0 m0 k0)).setCell ⟨gc, j * 3 + 1, none⟩ (.slice i1 m1 k1)).setCell ⟨gc, j * 3 + 2, none⟩ (.slice i2 m2 k2) = x9 at HE9 F9 B9 ⊢
    clear s0 s1 p2 p3 p4 v0e v1e v2e z0 z1 z2
    have G9 : Hid (Grs x9 0 nr F n (putT S j T) (putU V j (.slice i0 m0 k0) (.slice i1 m1 k1) (.slice i2 m2 k2)) (.slice a0 nr c0) (.slice (some ⟨gc, 0, none⟩) n cc)) := ⟨((HG.out.1.later HE9.out.2.2.2).mono (Nat.zero_le _)), stos_put F9.out (Nat.zero_le _) (fun i hi => ((HG.out.2.2 i hi).later HE9.out.2.2.2).mono (Nat.zero_le _)) ((HT.out.later HE9.out.2.2.2).mono (Nat.zero_le _))⟩
    clear F9 FC HE8 B8
    obtain ⟨⟨s0, s1⟩, _⟩ := B9.out
    go_wp2_with fail
    refine (implGroupsFault_any nr F n (putT S j T) _ _ _ 0 _ G9.out hr hn).mono ?_
    rw [HQ.out]
    rintro e x10 ⟨rfl, q10⟩
    have HE : Hid (CallP w (.slice a0 nr c0) (.slice a1 n c1) (.slice i0 m0 k0) (.slice i1 m1 k1) (.slice i2 m2 k2) x10) := HE9.out.later q10
    have G10 : Hid (Grs x10 0 nr F n (putT S j T) (putU V j (.slice i0 m0 k0) (.slice i1 m1 k1) (.slice i2 m2 k2)) (.slice a0 nr c0) (.slice (some ⟨gc, 0, none⟩) n cc)) := G9.out.later q10
    have B10 : Hid (Blk2 x10 b8 (.slice a0 nr c0) (.slice (some ⟨gc, 0, none⟩) n cc)) := B9.out.later q10
    clear q10 HE9 G9 B9 s0 s1
    obtain ⟨⟨r0, r1, r2⟩, f0, f1, f2⟩ := HE.out.2.2.1
    obtain ⟨⟨s0, s1⟩, _⟩ := B10.out
    have d : (c == 0) = false := beq_eq_false_iff_ne.2 HC.out
    have d' : (c != 0) = true := bne_iff_ne.2 HC.out
    go_wp2
    exact bodyPost_ret (v := .agg #[.int .i64 c, .slice none 0 0, .slice none 0 0]) (by simp [results, Tryz.results12, go_sem, r0, r1, r2]) rfl (resGr_nil rfl (((HE.out.2.2.2.setCell (Nat.le_add_right _ 2) _).setCell (Nat.le_add_right _ 2) _).setCell (Nat.le_add_right _ 2) _))
set_option maxRecDepth 100000 in
set_option maxHeartbeats 16000000 in
theorem implPutStore_done (nr : Nat) (F : Nat → Int) (n : Nat) (S : Nat → Sto) (V : Nat → Nat → Value) (vr vs : Value) (j : Nat) (T : Sto) (t0 t1 t2 : Value) (B : Nat) (w : World) (h : Grs w B nr F n S V vr vs) (hs : St w B T t0 t1 t2) (hr : nr ≤ 9223372036854775807) (hn : n ≤ 9223372036854775807) (hj : j < n) (hz : groupsF nr F n S = 0) (hc : groupsF nr F n (putT S j T) = 0) :
    Calls Tryz.prog 12 #[.agg #[vr, vs], .int .i64 (j : Int), .agg #[t0, t1, t2]] w (ResGr w 0 n F n (putT S j T)) := by
  obtain ⟨a0, c0, a1, c1, rfl, rfl⟩ := h.form
  obtain ⟨i0, k0, i1, k1, i2, k2, rfl, rfl, rfl⟩ := hs.form
  have HG : Hid (Grs w B nr F n S V (.slice a0 nr c0) (.slice a1 n c1)) := h
  have HT : Hid (St w B T (.slice i0 T.nc k0) (.slice i1 T.nl k1) (.slice i2 T.nw k2)) := hs
  obtain ⟨m0, hm0⟩ : ∃ x, T.nc = x := ⟨_, rfl⟩
  obtain ⟨m1, hm1⟩ : ∃ x, T.nl = x := ⟨_, rfl⟩
  obtain ⟨m2, hm2⟩ : ∃ x, T.nw = x := ⟨_, rfl⟩
  rw [hm0, hm1, hm2] at HT ⊢
  clear hm0 hm1 hm2
  have HE : Hid (CallP w (.slice a0 nr c0) (.slice a1 n c1) (.slice i0 m0 k0) (.slice i1 m1 k1) (.slice i2 m2 k2) (((w.alloc (.cells #[.slice a0 nr c0, .slice a1 n c1] 36)).alloc (.cells #[.slice i0 m0 k0, .slice i1 m1 k1, .slice i2 m2 k2] 45)).alloc (.cells #[.int .i64 0, .slice none 0 0, .slice none 0 0] 38))) := CallP.new w _ _ _ _ _ _ _ _
  clear h hs
  obtain ⟨f, hf⟩ : ∃ f, groupsF nr F n S = f := ⟨_, rfl⟩
  have HF : Hid (groupsF nr F n S = f) := hf
  obtain ⟨⟨p0, p1⟩, _⟩ := HE.out.1
  rw [hf] at hz
  subst hz
  have Z := groupsF_zero HF.out
  have N6 : Hid (n ≤ 6 ∧ n = nr) := ⟨by have := Z.1.n6; have := Z.2.1; omega, Z.2.1⟩
  have HQ : Hid (groupsF nr F n (putT S j T) = 0) := hc
  have dl : decide ((j : Int) < 0) = false := decide_eq_false (by omega)
  have dg : decide ((n : Int) ≤ (j : Int)) = false := decide_eq_false (by omega)
  clear Z HF hc
  go_enter Tryz.func12, Tryz.ntmps12
  go_wp2_with fail
  refine (implGroupsFault_any nr F n S V _ _ B _ (HG.out.later HE.out.2.2.2) hr hn).mono ?_
  rw [hf]
  rintro e w1 ⟨rfl, q1⟩
  have HE : Hid (CallP w (.slice a0 nr c0) (.slice a1 n c1) (.slice i0 m0 k0) (.slice i1 m1 k1) (.slice i2 m2 k2) w1) := HE.out.later q1
  clear q1 p0 p1 hf
  obtain ⟨⟨p0, p1⟩, _⟩ := HE.out.1
  obtain ⟨⟨r0, r1, r2⟩, f0, f1, f2⟩ := HE.out.2.2.1
  go_upto_region 6 with fail
  refine wp_region_held_drew (S := fun x => Blk2 x w.heap.size (.slice a0 nr c0) (.slice a1 n c1)) (by kernel_rfl) (HE.out.1.kept rfl) (fun hS => ?_)
  clear p0 p1 r0 r1 r2 f0 f1 f2
  refine wpAnyH_take (i := 0) (v := ?_) rfl (by kernel_rfl) (by kernel_rfl) (by kernel_rfl) (fun _ _ _ h => h) (Or.inl ⟨by kernel_rfl, ?_⟩) hS ?_
  rotate_left
  · intro wx hx
    obtain ⟨⟨hx0, hx1⟩, _⟩ := hx
    go_simp
    try with_reducible rfl
  refine wpAnyH_take (i := 1) (v := ?_) rfl (by kernel_rfl) (by kernel_rfl) (by kernel_rfl) (fun _ _ _ h => h) (Or.inl ⟨by kernel_rfl, ?_⟩) hS ?_
  rotate_left
  · intro wx hx
    obtain ⟨⟨hx0, hx1⟩, _⟩ := hx
    go_simp
    try with_reducible rfl
  refine wpAnyH_take (i := 2) (v := ?_) rfl (by kernel_rfl) (by kernel_rfl) (by kernel_rfl) (fun _ _ _ h => h) (Or.inl ⟨by kernel_rfl, ?_⟩) hS ?_
  rotate_left
  · intro wx hx
    obtain ⟨⟨hx0, hx1⟩, _⟩ := hx
    go_simp
    try with_reducible rfl
  refine wpAnyH_take (i := 3) (v := ?_) rfl (by kernel_rfl) (by kernel_rfl) (by kernel_rfl) (fun _ _ _ h => h) (Or.inl ⟨by kernel_rfl, ?_⟩) hS ?_
  rotate_left
  · intro wx hx
    obtain ⟨⟨hx0, hx1⟩, _⟩ := hx
    go_simp
    try with_reducible rfl
  refine wpAnyH_ready (rs := [4, 6]) (by kernel_rfl) (by simp) ?_
  refine AllReadyH.cons rfl (fun K hK => ?_) (AllReadyH.cons rfl (fun K hK => ?_) AllReadyH.nil)
  · go_simp
    go_wp2_with fail
    refine (cloneStores_is n S V _ B _ (HG.out.2.later (HE.out.2.2.2.drew)) (by omega) (by have := N6.out; omega)).mono ?_
    rintro e w4 ⟨gc, cc, rfl, ho, q4⟩
    have q4' : Below w1.heap.size w1 w4 := ⟨q4.os, q4.tape, q4.output, q4.size, q4.block⟩
    have z4 := HE.out.sz
    have gcb := ho.block gc rfl
    have HE8 : Hid (CallP w (.slice a0 nr c0) (.slice a1 n c1) (.slice i0 m0 k0) (.slice i1 m1 k1) (.slice i2 m2 k2) (w4.alloc (.cells #[.slice a0 nr c0, .slice (some ⟨gc, 0, none⟩) n cc] 36))) := (HE.out.later q4').later (below_alloc _ _)
    have B8 : Hid (Blk2 (w4.alloc (.cells #[.slice a0 nr c0, .slice (some ⟨gc, 0, none⟩) n cc] 36)) w4.heap.size (.slice a0 nr c0) (.slice (some ⟨gc, 0, none⟩) n cc)) := Blk2.new _ _ _ _
    have FC0 : FillS (w4.alloc (.cells #[.slice a0 nr c0, .slice (some ⟨gc, 0, none⟩) n cc] 36)) gc n n V ∧ w.heap.size + 3 ≤ gc := ⟨ho.fill.later (below_alloc _ _), by have := gcb.1; exact Nat.le_trans z4 this⟩
    have gb8 : gc ≠ w4.heap.size ∧ w.heap.size + 3 ≤ w4.heap.size := ⟨by have := gcb.2; omega, Nat.le_trans z4 q4'.size⟩
    have hS4 := (HE.out.later q4').1
    have hS5 : Blk2 (w4.alloc (.cells #[.slice none 0 0, .slice none 0 0] 36)) w.heap.size (.slice a0 nr c0) (.slice a1 n c1) := hS4.alloc _
    clear ho q4 q4' gcb z4 HE
    go_wp2_with fail
    refine hK.out _ _ hS4 (fun hS => ?_)
    clear hK K hS4
    refine wpAnyH_take (i := 5) (v := ?_) rfl (by kernel_rfl) (by kernel_rfl) (by kernel_rfl) (fun _ _ _ h => h) (Or.inl ⟨by kernel_rfl, ?_⟩) hS ?_
    rotate_left
    · intro wx hx
      obtain ⟨⟨hx0, hx1⟩, _⟩ := hx
      go_simp
      try with_reducible rfl
    refine wpAnyH_ready (rs := [6]) (by kernel_rfl) (by simp) ?_
    refine AllReadyH.cons rfl (fun K hK => ?_) AllReadyH.nil
    go_simp
    refine hK.out _ _ hS5 (fun hS => ?_)
    clear hK K hS5
    have hS8 := HE8.out.1
    refine wpAnyH_ready (rs := [7]) (by kernel_rfl) (by simp) ?_
    refine AllReadyH.cons rfl (fun K hK => ?_) AllReadyH.nil
    go_simp
    refine hK.out _ _ hS8 (fun hS => ?_)
    clear hK K hS8
    refine wpAnyH_done (by kernel_rfl) ?_ _
    clear hS
    try clear t0 t1 t2 t3
    go_simp
    generalize (w4.alloc (.cells #[.slice a0 nr c0, .slice (some ⟨gc, 0, none⟩) n cc] 36)) = x8 at HE8 B8 FC0 ⊢
    generalize hb8 : w4.heap.size = b8 at B8 gb8 ⊢
    clear hb8
    have FC : Hid ((FillS x8 gc n n V ∧ w.heap.size + 3 ≤ gc) ∧ gc ≠ b8 ∧ w.heap.size + 3 ≤ b8) := ⟨FC0, gb8⟩
    clear FC0 gb8
    obtain ⟨⟨s0, s1⟩, _⟩ := B8.out
    obtain ⟨⟨p2, p3, p4⟩, _⟩ := HE8.out.2.1
    obtain ⟨v0', v0e, z0⟩ := FC.out.1.1.at (p := j * 3) (by omega)
    obtain ⟨v1', v1e, z1⟩ := FC.out.1.1.at (p := j * 3 + 1) (by omega)
    obtain ⟨v2', v2e, z2⟩ := FC.out.1.1.at (p := j * 3 + 2) (by omega)
    have W : Hid (Below (w.heap.size + 3) x8 (((x8.setCell ⟨gc, j * 3, none⟩ (.slice i0 m0 k0)).setCell ⟨gc, j * 3 + 1, none⟩ (.slice i1 m1 k1)).setCell ⟨gc, j * 3 + 2, none⟩ (.slice i2 m2 k2))) := (((Below.refl _ _).setCell FC.out.1.2 _).setCell FC.out.1.2 _).setCell FC.out.1.2 _
    have HE9 : Hid (CallP w (.slice a0 nr c0) (.slice a1 n c1) (.slice i0 m0 k0) (.slice i1 m1 k1) (.slice i2 m2 k2) (((x8.setCell ⟨gc, j * 3, none⟩ (.slice i0 m0 k0)).setCell ⟨gc, j * 3 + 1, none⟩ (.slice i1 m1 k1)).setCell ⟨gc, j * 3 + 2, none⟩ (.slice i2 m2 k2))) := HE8.out.kept W.out
    have F9 : Hid (FillS (((x8.setCell ⟨gc, j * 3, none⟩ (.slice i0 m0 k0)).setCell ⟨gc, j * 3 + 1, none⟩ (.slice i1 m1 k1)).setCell ⟨gc, j * 3 + 2, none⟩ (.slice i2 m2 k2)) gc n n (putU V j (.slice i0 m0 k0) (.slice i1 m1 k1) (.slice i2 m2 k2))) := FC.out.1.1.set hj _ _ _
    have B9 : Hid (Blk2 (((x8.setCell ⟨gc, j * 3, none⟩ (.slice i0 m0 k0)).setCell ⟨gc, j * 3 + 1, none⟩ (.slice i1 m1 k1)).setCell ⟨gc, j * 3 + 2, none⟩ (.slice i2 m2 k2)) b8 (.slice a0 nr c0) (.slice (some ⟨gc, 0, none⟩) n cc)) := ((B8.out.kept (Below.heap_setCell _ _ _ _ (Ne.symm FC.out.2.1))).kept (Below.heap_setCell _ _ _ _ (Ne.symm FC.out.2.1))).kept (Below.heap_setCell _ _ _ _ (Ne.symm FC.out.2.1))
    clear W
    go_upto_region 8 with fail
    generalize ((x8.setCell ⟨gc, j * 3, none⟩ (.slice i0 m0 k0)).setCell ⟨gc, j * 3 + 1, none⟩ (.slice i1 m1 k1)).setCell ⟨gc, j * 3 + 2, none⟩ (.slice i2 m2 k2) = x9 at HE9 F9 B9 ⊢
    clear s0 s1 p2 p3 p4 v0e v1e v2e z0 z1 z2
    have G9 : Hid (Grs x9 0 nr F n (putT S j T) (putU V j (.slice i0 m0 k0) (.slice i1 m1 k1) (.slice i2 m2 k2)) (.slice a0 nr c0) (.slice (some ⟨gc, 0, none⟩) n cc)) := ⟨((HG.out.1.later HE9.out.2.2.2).mono (Nat.zero_le _)), stos_put F9.out (Nat.zero_le _) (fun i hi => ((HG.out.2.2 i hi).later HE9.out.2.2.2).mono (Nat.zero_le _)) ((HT.out.later HE9.out.2.2.2).mono (Nat.zero_le _))⟩
    clear F9 FC HE8 B8
    obtain ⟨⟨s0, s1⟩, _⟩ := B9.out
    go_wp2_with fail
    refine (implGroupsFault_any nr F n (putT S j T) _ _ _ 0 _ G9.out hr hn).mono ?_
    rw [HQ.out]
    rintro e x10 ⟨rfl, q10⟩
    have HE : Hid (CallP w (.slice a0 nr c0) (.slice a1 n c1) (.slice i0 m0 k0) (.slice i1 m1 k1) (.slice i2 m2 k2) x10) := HE9.out.later q10
    have G10 : Hid (Grs x10 0 nr F n (putT S j T) (putU V j (.slice i0 m0 k0) (.slice i1 m1 k1) (.slice i2 m2 k2)) (.slice a0 nr c0) (.slice (some ⟨gc, 0, none⟩) n cc)) := G9.out.later q10
    have B10 : Hid (Blk2 x10 b8 (.slice a0 nr c0) (.slice (some ⟨gc, 0, none⟩) n cc)) := B9.out.later q10
    clear q10 HE9 G9 B9 s0 s1
    obtain ⟨⟨r0, r1, r2⟩, f0, f1, f2⟩ := HE.out.2.2.1
    obtain ⟨⟨s0, s1⟩, _⟩ := B10.out
    go_wp2_with fail
    refine (pointToAll_is nr F n (putT S j T) _ _ _ 0 _ G10.out (fun i hi => ((groupsF_zero HQ.out).2.2.1 i hi).1) N6.out.2 (by have := N6.out.1; omega)).mono ?_
    rintro e x11 ⟨gp, P, rfl, hP, hT, q11⟩
    have HE : Hid (CallP w (.slice a0 nr c0) (.slice a1 n c1) (.slice i0 m0 k0) (.slice i1 m1 k1) (.slice i2 m2 k2) x11) := HE.out.later q11
    have PR : Hid (PtrRow x11 n (some ⟨gp, 0, none⟩) P) := hP
    have TO : Hid (Told x11 x10.heap.size n F (putT S j T) P) := hT
    clear hP hT q11 G10 B10 s0 s1 r0 r1 r2 f0 f1 f2
    go_wp2_with fail
    refine (groupsTold_is n _ _ F (putT S j T) P _ _ PR.out TO.out (by have := N6.out.1; omega)).mono ?_
    rintro e x12 ⟨xa, xc, ya, yc, U, z, rfl, hR, q12⟩
    have z12 := HE.out.sz
    have HE : Hid (CallP w (.slice a0 nr c0) (.slice a1 n c1) (.slice i0 m0 k0) (.slice i1 m1 k1) (.slice i2 m2 k2) x12) := HE.out.later q12
    have HR : Hid (FineR x12 (w.heap.size + 3) x12.heap.size n F n (putT S j T) xa xc ya U z) := hR.mono z12
    clear hR q12 z12 PR TO
    obtain ⟨⟨r0, r1, r2⟩, f0, f1, f2⟩ := HE.out.2.2.1
    go_wp2
    refine bodyPost_ret (v := .agg #[.int .i64 0, .slice xa n xc, .slice ya n yc]) (by simp [results, Tryz.results12, go_sem, r0, r1, r2]) rfl ⟨xa, xc, ya, yc, U, z, rfl, ?_, ((HE.out.2.2.2.setCell (Nat.le_add_right _ 2) _).setCell (Nat.le_add_right _ 2) _).setCell (Nat.le_add_right _ 2) _⟩
    exact (((HR.out.within (within_set _ (w.heap.size + 2) 0 _) (Nat.le_refl _)).within (within_set _ (w.heap.size + 2) 1 _) (Nat.le_refl _)).within (within_set _ (w.heap.size + 2) 2 _) (Nat.le_refl _)).up (by omega)
  · have Y0 : Hid (Blk2 (w1.alloc (.cells #[.slice none 0 0, .slice none 0 0] 36)).drew w1.heap.size (.slice none 0 0) (.slice none 0 0)) := (Blk2.new w1 _ _ _).kept rfl
    have HE0 : Hid (CallP w (.slice a0 nr c0) (.slice a1 n c1) (.slice i0 m0 k0) (.slice i1 m1 k1) (.slice i2 m2 k2) (w1.alloc (.cells #[.slice none 0 0, .slice none 0 0] 36)).drew) := HE.out.later (below_alloc _ _).drew
    have hS5 := HE0.out.1
    have zz1 : Hid (w.heap.size + 3 ≤ w1.heap.size) := HE.out.sz
    clear HE
    go_simp
    refine hK.out _ _ hS5 (fun hS => ?_)
    clear hK K hS5
    refine wpAnyH_ready (rs := [4]) (by kernel_rfl) (by simp) ?_
    refine AllReadyH.cons rfl (fun K hK => ?_) AllReadyH.nil
    go_simp
    go_wp2_with fail
    refine (cloneStores_is n S V _ B _ (HG.out.2.later HE0.out.2.2.2) (by omega) (by have := N6.out; omega)).mono ?_
    rintro e w4 ⟨gc, cc, rfl, ho, q4⟩
    have gcb := ho.block gc rfl
    have Y8 : Hid (Blk2 w4 w1.heap.size (.slice none 0 0) (.slice none 0 0)) := Y0.out.later q4
    have HEy : Hid (CallP w (.slice a0 nr c0) (.slice a1 n c1) (.slice i0 m0 k0) (.slice i1 m1 k1) (.slice i2 m2 k2) w4) := HE0.out.later q4
    have hgc : w1.heap.size + 1 ≤ gc := by have := gcb.1; simpa using this
    have gb8 : gc ≠ w1.heap.size ∧ w.heap.size + 3 ≤ w1.heap.size := ⟨by omega, zz1.out⟩
    have BW : Below (w.heap.size + 3) w4 ((w4.setCell ⟨w1.heap.size, 0, none⟩ (.slice a0 nr c0)).setCell ⟨w1.heap.size, 1, none⟩ (.slice (some ⟨gc, 0, none⟩) n cc)) := ((Below.refl _ _).setCell gb8.2 _).setCell gb8.2 _
    have HE8 : Hid (CallP w (.slice a0 nr c0) (.slice a1 n c1) (.slice i0 m0 k0) (.slice i1 m1 k1) (.slice i2 m2 k2) ((w4.setCell ⟨w1.heap.size, 0, none⟩ (.slice a0 nr c0)).setCell ⟨w1.heap.size, 1, none⟩ (.slice (some ⟨gc, 0, none⟩) n cc))) := HEy.out.kept BW
    have B8 : Hid (Blk2 ((w4.setCell ⟨w1.heap.size, 0, none⟩ (.slice a0 nr c0)).setCell ⟨w1.heap.size, 1, none⟩ (.slice (some ⟨gc, 0, none⟩) n cc)) w1.heap.size (.slice a0 nr c0) (.slice (some ⟨gc, 0, none⟩) n cc)) := Y8.out.put _ _
    have FC0 : FillS ((w4.setCell ⟨w1.heap.size, 0, none⟩ (.slice a0 nr c0)).setCell ⟨w1.heap.size, 1, none⟩ (.slice (some ⟨gc, 0, none⟩) n cc)) gc n n V ∧ w.heap.size + 3 ≤ gc := ⟨ho.fill.kept BW.size ((Below.heap_setCell _ _ _ _ gb8.1).trans (Below.heap_setCell _ _ _ _ gb8.1)), by have := zz1.out; omega⟩
    have hS5 := HEy.out.1
    clear BW
    clear ho q4 gcb hgc Y0 HE0
    go_wp2_with fail
    refine hK.out _ _ hS5 (fun hS => ?_)
    clear hK K hS5
    refine wpAnyH_take (i := 5) (v := ?_) rfl (by kernel_rfl) (by kernel_rfl) (by kernel_rfl) (fun _ _ _ h => h) (Or.inl ⟨by kernel_rfl, ?_⟩) hS ?_
    rotate_left
    · intro wx hx
      obtain ⟨⟨hx0, hx1⟩, _⟩ := hx
      go_simp
      try with_reducible rfl
    obtain ⟨⟨t0, t1⟩, t2, t3⟩ := Y8.out
    clear Y8 HEy
    have hS8 := HE8.out.1
    refine wpAnyH_ready (rs := [7]) (by kernel_rfl) (by simp) ?_
    refine AllReadyH.cons rfl (fun K hK => ?_) AllReadyH.nil
    go_simp
    refine hK.out _ _ hS8 (fun hS => ?_)
    clear hK K hS8
    refine wpAnyH_done (by kernel_rfl) ?_ _
    clear hS
    try clear t0 t1 t2 t3
    go_simp
    generalize ((w4.setCell ⟨w1.heap.size, 0, none⟩ (.slice a0 nr c0)).setCell ⟨w1.heap.size, 1, none⟩ (.slice (some ⟨gc, 0, none⟩) n cc)) = x8 at HE8 B8 FC0 ⊢
    generalize hb8 : w1.heap.size = b8 at B8 gb8 ⊢
    clear hb8
    have FC : Hid ((FillS x8 gc n n V ∧ w.heap.size + 3 ≤ gc) ∧ gc ≠ b8 ∧ w.heap.size + 3 ≤ b8) := ⟨FC0, gb8⟩
    clear FC0 gb8
    obtain ⟨⟨s0, s1⟩, _⟩ := B8.out
    obtain ⟨⟨p2, p3, p4⟩, _⟩ := HE8.out.2.1
    obtain ⟨v0', v0e, z0⟩ := FC.out.1.1.at (p := j * 3) (by omega)
    obtain ⟨v1', v1e, z1⟩ := FC.out.1.1.at (p := j * 3 + 1) (by omega)
    obtain ⟨v2', v2e, z2⟩ := FC.out.1.1.at (p := j * 3 + 2) (by omega)
    have W : Hid (Below (w.heap.size + 3) x8 (((x8.setCell ⟨gc, j * 3, none⟩ (.slice i0 m0 k0)).setCell ⟨gc, j * 3 + 1, none⟩ (.slice i1 m1 k1)).setCell ⟨gc, j * 3 + 2, none⟩ (.slice i2 m2 k2))) := (((Below.refl _ _).setCell FC.out.1.2 _).setCell FC.out.1.2 _).setCell FC.out.1.2 _
    have HE9 : Hid (CallP w (.slice a0 nr c0) (.slice a1 n c1) (.slice i0 m0 k0) (.slice i1 m1 k1) (.slice i2 m2 k2) (((x8.setCell ⟨gc, j * 3, none⟩ (.slice i0 m0 k0)).setCell ⟨gc, j * 3 + 1, none⟩ (.slice i1 m1 k1)).setCell ⟨gc, j * 3 + 2, none⟩ (.slice i2 m2 k2))) := HE8.out.kept W.out
    have F9 : Hid (FillS (((x8.setCell ⟨gc, j * 3, none⟩ (.slice i0 m0 k0)).setCell ⟨gc, j * 3 + 1, none⟩ (.slice i1 m1 k1)).setCell ⟨gc, j * 3 + 2, none⟩ (.slice i2 m2 k2)) gc n n (putU V j (.slice i0 m0 k0) (.slice i1 m1 k1) (.slice i2 m2 k2))) := FC.out.1.1.set hj _ _ _
    have B9 : Hid (Blk2 (((x8.setCell ⟨gc, j * 3, none⟩ (.slice i0 m0 k0)).setCell ⟨gc, j * 3 + 1, none⟩ (.slice i1 m1 k1)).setCell ⟨gc, j * 3 + 2, none⟩ (.slice i2 m2 k2)) b8 (.slice a0 nr c0) (.slice (some ⟨gc, 0, none⟩) n cc)) := ((B8.out.kept (Below.heap_setCell _ _ _ _ (Ne.symm FC.out.2.1))).kept (Below.heap_setCell _ _ _ _ (Ne.symm FC.out.2.1))).kept (Below.heap_setCell _ _ _ _ (Ne.symm FC.out.2.1))
    clear W
    go_upto_region 8 with fail
    generalize ((x8.setCell ⟨gc, j * 3, none⟩ (.slice i0 m0 k0)).setCell ⟨gc, j * 3 + 1, none⟩ (.slice i1 m1 k1)).setCell ⟨gc, j * 3 + 2, none⟩ (.slice i2 m2 k2) = x9 at HE9 F9 B9 ⊢
    clear s0 s1 p2 p3 p4 v0e v1e v2e z0 z1 z2
    have G9 : Hid (Grs x9 0 nr F n (putT S j T) (putU V j (.slice i0 m0 k0) (.slice i1 m1 k1) (.slice i2 m2 k2)) (.slice a0 nr c0) (.slice (some ⟨gc, 0, none⟩) n cc)) := ⟨((HG.out.1.later HE9.out.2.2.2).mono (Nat.zero_le _)), stos_put F9.out (Nat.zero_le _) (fun i hi => ((HG.out.2.2 i hi).later HE9.out.2.2.2).mono (Nat.zero_le _)) ((HT.out.later HE9.out.2.2.2).mono (Nat.zero_le _))⟩
    clear F9 FC HE8 B8
    obtain ⟨⟨s0, s1⟩, _⟩ := B9.out
    go_wp2_with fail
    refine (implGroupsFault_any nr F n (putT S j T) _ _ _ 0 _ G9.out hr hn).mono ?_
    rw [HQ.out]
    rintro e x10 ⟨rfl, q10⟩
    have HE : Hid (CallP w (.slice a0 nr c0) (.slice a1 n c1) (.slice i0 m0 k0) (.slice i1 m1 k1) (.slice i2 m2 k2) x10) := HE9.out.later q10
    have G10 : Hid (Grs x10 0 nr F n (putT S j T) (putU V j (.slice i0 m0 k0) (.slice i1 m1 k1) (.slice i2 m2 k2)) (.slice a0 nr c0) (.slice (some ⟨gc, 0, none⟩) n cc)) := G9.out.later q10
    have B10 : Hid (Blk2 x10 b8 (.slice a0 nr c0) (.slice (some ⟨gc, 0, none⟩) n cc)) := B9.out.later q10
    clear q10 HE9 G9 B9 s0 s1
    obtain ⟨⟨r0, r1, r2⟩, f0, f1, f2⟩ := HE.out.2.2.1
    obtain ⟨⟨s0, s1⟩, _⟩ := B10.out
    go_wp2_with fail
    refine (pointToAll_is nr F n (putT S j T) _ _ _ 0 _ G10.out (fun i hi => ((groupsF_zero HQ.out).2.2.1 i hi).1) N6.out.2 (by have := N6.out.1; omega)).mono ?_
    rintro e x11 ⟨gp, P, rfl, hP, hT, q11⟩
    have HE : Hid (CallP w (.slice a0 nr c0) (.slice a1 n c1) (.slice i0 m0 k0) (.slice i1 m1 k1) (.slice i2 m2 k2) x11) := HE.out.later q11
    have PR : Hid (PtrRow x11 n (some ⟨gp, 0, none⟩) P) := hP
    have TO : Hid (Told x11 x10.heap.size n F (putT S j T) P) := hT
    clear hP hT q11 G10 B10 s0 s1 r0 r1 r2 f0 f1 f2
    go_wp2_with fail
    refine (groupsTold_is n _ _ F (putT S j T) P _ _ PR.out TO.out (by have := N6.out.1; omega)).mono ?_
    rintro e x12 ⟨xa, xc, ya, yc, U, z, rfl, hR, q12⟩
    have z12 := HE.out.sz
    have HE : Hid (CallP w (.slice a0 nr c0) (.slice a1 n c1) (.slice i0 m0 k0) (.slice i1 m1 k1) (.slice i2 m2 k2) x12) := HE.out.later q12
    have HR : Hid (FineR x12 (w.heap.size + 3) x12.heap.size n F n (putT S j T) xa xc ya U z) := hR.mono z12
    clear hR q12 z12 PR TO
    obtain ⟨⟨r0, r1, r2⟩, f0, f1, f2⟩ := HE.out.2.2.1
    go_wp2
    refine bodyPost_ret (v := .agg #[.int .i64 0, .slice xa n xc, .slice ya n yc]) (by simp [results, Tryz.results12, go_sem, r0, r1, r2]) rfl ⟨xa, xc, ya, yc, U, z, rfl, ?_, ((HE.out.2.2.2.setCell (Nat.le_add_right _ 2) _).setCell (Nat.le_add_right _ 2) _).setCell (Nat.le_add_right _ 2) _⟩
    exact (((HR.out.within (within_set _ (w.heap.size + 2) 0 _) (Nat.le_refl _)).within (within_set _ (w.heap.size + 2) 1 _) (Nat.le_refl _)).within (within_set _ (w.heap.size + 2) 2 _) (Nat.le_refl _)).up (by omega)
end

section
open Go.RowKit Go.Maps
-- Own text. What the model's l7Copy answers: the groups once more, in new memory.
/-- Groups that are copied: k stores are laid; the groups under way lie in block bo, the ranges below it, all else behind it. -/
structure CopT (w : World) (vr vs : Value) (nr : Nat) (F : Nat → Int) (xr : Value) (bo : Nat) (S : Nat → Sto) (x : World) (k : Nat) (U : Nat → Nat → Value) (vS : Value) : Prop where
  below : Below w.heap.size w x
  box : Blk2 x w.heap.size vr vs
  res : Blk2 x (w.heap.size + 1) (.slice none 0 0) (.slice none 0 0)
  blk : Blk2 x bo xr vS
  lo : w.heap.size + 2 ≤ bo
  rr : Row x (w.heap.size + 2) 3 nr F xr
  rb : 0 < nr → ∀ q, xr.ownBlock = some q → q < bo
  rs : OwnV x (bo + 1) vS k U
  st : ∀ i, i < k → St x (bo + 1) (S i) (U i 0) (U i 1) (U i 2)
  sp : ∀ q, vS.ownBlock = some q → Spare k S U q
theorem CopT.later {w x x' : World} {vr vs : Value} {nr : Nat} {F : Nat → Int} {xr : Value} {bo : Nat} {S : Nat → Sto} {k : Nat} {U : Nat → Nat → Value} {vS : Value} (h : CopT w vr vs nr F xr bo S x k U vS) (hb : Below x.heap.size x x') : CopT w vr vs nr F xr bo S x' k U vS :=
  ⟨h.below.trans (hb.mono h.below.size), h.box.later hb, h.res.later hb, h.blk.later hb, h.lo, h.rr.later hb, h.rb, h.rs.later hb, fun i hi => (h.st i hi).later hb, h.sp⟩
theorem St.farO {x : World} {B : Nat} {S : Sto} {u0 u1 u2 : Value} (h : St x B S u0 u1 u2) {b j : Nat} (hb : b < B) (u : Value) : St (x.setCell ⟨b, j, none⟩ u) B S u0 u1 u2 := h.within (within_set x b j u) (h.ownIn.mono (fun k hk => Or.inr (by omega)))
theorem CopT.put {w x y : World} {vr vs : Value} {nr : Nat} {F : Nat → Int} {xr : Value} {bo : Nat} {S : Nat → Sto} {k : Nat} {U : Nat → Nat → Value} {vS u u0 u1 u2 : Value} {zz : Nat} (h : CopT w vr vs nr F xr bo S x k U vS) (hk : St x zz (S k) u0 u1 u2) (hz : bo + 1 ≤ zz) (hs0 : ∀ q, vS.ownBlock = some q → q < zz) (ho : OwnV y (bo + 1) u (k + 1) (putU U k u0 u1 u2)) (hg : x.grownBy y vS.ownBlock) (hat : u.ownBlock = vS.ownBlock ∨ u.ownBlock = some x.heap.size) : CopT w vr vs nr F xr bo S (y.setCell ⟨bo, 1, none⟩ u) (k + 1) (putU U k u0 u1 u2) u := by
  have nb : ∀ b, b < bo + 1 → vS.ownBlock ≠ some b := fun b hb e => by have := (h.rs.block b e).1; omega
  have hlo := h.lo
  have bel : Below w.heap.size w y := ⟨hg.os.trans h.below.os, hg.tape.trans h.below.tape, hg.output.trans h.below.output, Nat.le_trans h.below.size hg.size, fun i hi => (hg.block i (Nat.lt_of_lt_of_le hi h.below.size) (fun e => nb i (by omega) e.symm)).trans (h.below.block i hi)⟩
  have stx : ∀ i, i < k + 1 → St x (bo + 1) (S i) (putU U k u0 u1 u2 i 0) (putU U k u0 u1 u2 i 1) (putU U k u0 u1 u2 i 2) := fun i hi => by
    by_cases e : i = k
    · subst e
      simp only [putU, if_true]
      exact hk.mono hz
    · simp only [putU, if_neg e]
      exact h.st i (by omega)
  have spx : ∀ q, vS.ownBlock = some q → Spare (k + 1) S (putU U k u0 u1 u2) q := fun q hq i hi => by
    by_cases e : i = k
    · subst e
      simp only [putU, if_true]
      exact hk.ownIn.mono (fun p hp => by have := hs0 q hq; omega)
    · have := h.sp q hq i (by omega)
      simp only [putU, if_neg e]
      exact this
  refine ⟨bel.setCell (by show w.heap.size ≤ bo; omega) _, (blk2_past h.box hg (nb _ (by omega))).setFar (by show w.heap.size ≠ bo; omega) _, (blk2_past h.res hg (nb _ (by omega))).setFar (by show w.heap.size + 1 ≠ bo; omega) _, (blk2_past h.blk hg (nb _ (by omega))).set1 _, hlo, ?_, h.rb, ho.far (Nat.lt_succ_self _) _, fun i hi => ?_, fun q hq => ?_⟩
  · have r1 := h.rr.turned hg (fun hp q hq e => nb q (by have := h.rb hp q hq; omega) e.symm)
    exact r1.within (within_set y bo 1 u) (fun hp q hq => Or.inl (h.rb hp q hq))
  · obtain ⟨s0, s1, s2⟩ := stx i hi
    have hs : St y (bo + 1) (S i) (putU U k u0 u1 u2 i 0) (putU U k u0 u1 u2 i 1) (putU U k u0 u1 u2 i 2) := ⟨s0.turned hg (fun hp q hq e => (spx q e.symm i hi).1 hp q hq rfl), s1.turned hg (fun hp q hq e => (spx q e.symm i hi).2.1 hp q hq rfl), s2.turned hg (fun hp q hq e => (spx q e.symm i hi).2.2 hp q hq rfl)⟩
    exact hs.farO (Nat.lt_succ_self _) _
  · rcases hat with e | e
    · exact spx q (e ▸ hq)
    · rw [e] at hq
      simp at hq
      intro i hi
      exact (stx i hi).ownIn.mono (fun p hp => by omega)
/-- What the copying region reads: the groups' box and the store. -/
def CopE (w : World) (vr vs : Value) (g o k : Nat) (s0 s1 s2 : Value) (x : World) : Prop :=
  Blk2 x w.heap.size vr vs ∧ x.cell? ⟨g, o + k * 3, none⟩ = some s0 ∧ x.cell? ⟨g, o + k * 3 + 1, none⟩ = some s1 ∧ x.cell? ⟨g, o + k * 3 + 2, none⟩ = some s2
theorem CopE.kept {w x x' : World} {vr vs : Value} {g o k : Nat} {s0 s1 s2 : Value} (h : CopE w vr vs g o k s0 s1 s2 x) (hb : ∀ q, q = w.heap.size ∨ q = g → x'.heap[q]? = x.heap[q]?) : CopE w vr vs g o k s0 s1 s2 x' := by
  obtain ⟨h1, h3, h4, h5⟩ := h
  have e := hb g (Or.inr rfl)
  exact ⟨h1.kept (hb _ (Or.inl rfl)), (World.cell?_of_block (w := x) (a := ⟨g, o + k * 3, none⟩) e).trans h3, (World.cell?_of_block (w := x) (a := ⟨g, o + k * 3 + 1, none⟩) e).trans h4, (World.cell?_of_block (w := x) (a := ⟨g, o + k * 3 + 2, none⟩) e).trans h5⟩
set_option maxRecDepth 100000 in
set_option maxHeartbeats 16000000 in
theorem l7Copy_is (nr : Nat) (F : Nat → Int) (n : Nat) (S : Nat → Sto) (V : Nat → Nat → Value) (vr vs : Value) (B : Nat) (w : World) (h : Grs w B nr F n S V vr vs) (hr : 0 < nr ∧ nr ≤ 12) (hn : n ≤ 12) (hs : ∀ i, i < n → (S i).nc ≤ 1048576 ∧ (S i).nl ≤ 1048576 ∧ (S i).nw ≤ 1048576) :
    Calls Tryz.prog 37 #[.agg #[vr, vs]] w fun e w' => ∃ xr vS U, e = .returned (.agg #[xr, vS]) ∧ (Row w' w.heap.size 3 nr F xr ∧ OwnV w' w.heap.size vS n U ∧ (∀ i, i < n → St w' w.heap.size (S i) (U i 0) (U i 1) (U i 2)) ∧ (∀ q, vS.ownBlock = some q → Spare n S U q ∧ xr.ownBlock ≠ some q)) ∧ Below w.heap.size w w' := by
  obtain ⟨a0, c0, a1, c1, rfl, rfl⟩ := h.form
  have HG : Hid (Grs w B nr F n S V (.slice a0 nr c0) (.slice a1 n c1)) := h
  have HS : Hid (∀ i, i < n → (S i).nc ≤ 1048576 ∧ (S i).nl ≤ 1048576 ∧ (S i).nw ≤ 1048576) := hs
  clear h hs
  obtain ⟨ad, rfl⟩ : ∃ a, a0 = some a := by
    obtain ⟨ao, cp, hv, h'⟩ := HG.out.1
    obtain ⟨g, o, rfl, _⟩ := h' hr.1
    simp only [Value.slice.injEq] at hv
    exact ⟨_, hv.1⟩
  obtain ⟨i0, hi, hz0, hz1, hz2⟩ := info_parts info_Range
  obtain ⟨j0, gi, gz0, gz1, gz2⟩ := info_parts info_Store
  go_enter Tryz.func37, Tryz.ntmps37
  have OE : (((w.alloc (.cells #[.slice (some ad) nr c0, .slice a1 n c1] 36)).alloc (.cells #[.slice none 0 0, .slice none 0 0] 36)).alloc (.cells #[] 102)).ownsRow (w.heap.size + 2) 102 3 (.slice (some ⟨w.heap.size + 1 + 1, 0, none⟩) 0 0) 0 [] := by
    have := own_empty ((w.alloc (.cells #[.slice (some ad) nr c0, .slice a1 n c1] 36)).alloc (.cells #[.slice none 0 0, .slice none 0 0] 36)) 102 3
    rw [World.size_alloc, World.size_alloc] at this
    exact this
  have RC : ∀ j u, (vals F (nr * 3))[j]? = some u → (((w.alloc (.cells #[.slice (some ad) nr c0, .slice a1 n c1] 36)).alloc (.cells #[.slice none 0 0, .slice none 0 0] 36)).alloc (.cells #[] 102)).cell? (ad.add j) = some u := row_cells (((HG.out.1.alloc _).alloc _).alloc _)
  have b3 : Hid (Blk2 (((w.alloc (.cells #[.slice (some ad) nr c0, .slice a1 n c1] 36)).alloc (.cells #[.slice none 0 0, .slice none 0 0] 36)).alloc (.cells #[] 102)) w.heap.size (.slice (some ad) nr c0) (.slice a1 n c1)) := ((Blk2.new w _ _ _).alloc _).alloc _
  have b4 : Hid (Blk2 (((w.alloc (.cells #[.slice (some ad) nr c0, .slice a1 n c1] 36)).alloc (.cells #[.slice none 0 0, .slice none 0 0] 36)).alloc (.cells #[] 102)) (w.heap.size + 1) (.slice none 0 0) (.slice none 0 0)) := by
    have := Blk2.new (w.alloc (.cells #[.slice (some ad) nr c0, .slice a1 n c1] 36)) (.slice none 0 0) (.slice none 0 0) 36
    rw [World.size_alloc] at this
    exact this.alloc _
  have BW : Hid (Below w.heap.size w (((w.alloc (.cells #[.slice (some ad) nr c0, .slice a1 n c1] 36)).alloc (.cells #[.slice none 0 0, .slice none 0 0] 36)).alloc (.cells #[] 102)) ∧ (((w.alloc (.cells #[.slice (some ad) nr c0, .slice a1 n c1] 36)).alloc (.cells #[.slice none 0 0, .slice none 0 0] 36)).alloc (.cells #[] 102)).heap.size = w.heap.size + 3) := ⟨((below_alloc _ _).alloc (by simp) _).alloc (by simp; omega) _, by simp⟩
  obtain ⟨⟨p0, p1⟩, _⟩ := b3.out
  go_wp2_with (at_builtin; refine wpList_append_own _ rfl _ _ 33 rfl (w.heap.size + 2) 102 i0 (.agg #[.int .i64 0, .int .i64 0, .int .i64 0]) 3 24 Tryz.underlying33 hi hz0 hz1 hz2 rfl (by decide) _ 0 [] rfl OE ad nr c0 (vals F (nr * 3)) rfl (vals_length _ _) RC (vals_one _ _) ?c3 ?c4 ?c5 ?_)
  case c3 => unfold maxLen; omega
  case c4 => omega
  case c5 => simp
  intro xr w1 ho hg _
  have HO : Own w1 (w.heap.size + 2) 102 3 nr F xr := by simpa [Own] using ho
  obtain ⟨xa, xc, rfl⟩ := HO.form
  have nb : ∀ q, q < w.heap.size + 2 → (Value.slice (some ⟨w.heap.size + 1 + 1, 0, none⟩) 0 0).ownBlock ≠ some q := fun q hq e => by simp [Value.ownBlock] at e; omega
  have T0 : Hid (CopT w (.slice (some ad) nr c0) (.slice a1 n c1) nr F (.slice xa nr xc) w1.heap.size S (w1.alloc (.cells #[.slice xa nr xc, .slice none 0 0] 36)) 0 (fun _ _ => .bool true) (.slice none 0 0)) := by
    have hsz : w.heap.size + 3 ≤ w1.heap.size := by have := hg.size; rw [BW.out.2] at this; exact this
    refine ⟨(below_grownBy BW.out.1 (by rw [BW.out.2]; omega) (fun b hb => by simp [Value.ownBlock] at hb; omega) hg).alloc (by omega) _, (blk2_past b3.out hg (nb _ (by omega))).alloc _, (blk2_past b4.out hg (nb _ (by omega))).alloc _, Blk2.new _ _ _ _, by omega, HO.row.1.alloc _, fun hp q hq => (HO.row.1.lt hp q hq).2, ⟨rfl, Or.inl ⟨rfl, rfl⟩⟩, fun i hi => absurd hi (Nat.not_lt_zero i), fun q e => by cases e⟩
  clear ho hg HO nb p0 p1 b3 b4 OE RC BW
  go_upto_region 2 with fail
  generalize w1.alloc (.cells #[.slice xa nr xc, .slice none 0 0] 36) = x0 at T0 ⊢
  generalize w1.heap.size = bo at T0 ⊢
  obtain ⟨⟨p0, p1⟩, _⟩ := T0.out.box
  go_wp2
  go_loopw [4] (fun i wr => ∃ (k : Nat) (U : Nat → Nat → Value) (sa : Option Addr) (sc : Nat), k ≤ n ∧ i = .int .i64 k ∧ Hid (CopT w (.slice (some ad) nr c0) (.slice a1 n c1) nr F (.slice xa nr xc) bo S wr k U (.slice sa k sc))) (fun i _ => n - (intOf i).toNat)
  case atStart => exact ⟨0, _, none, 0, Nat.zero_le _, rfl, T0⟩
  case round =>
    obtain ⟨k, U, sa, sc, hk, rfl, TT⟩ := hrel
    clear p0 p1
    obtain ⟨⟨p0, p1⟩, _⟩ := TT.out.box
    by_cases hlt : k < n
    · obtain ⟨g, o, rfl, _, hg, ⟨b0', b1', b2'⟩, sk⟩ := HG.out.2.at hlt
      obtain ⟨i0', d0', i1', d1', i2', d2', e0', e1', e2'⟩ := sk.form
      rw [e0'] at b0'
      rw [e1'] at b1'
      rw [e2'] at b2'
      rw [e0', e1', e2'] at sk
      obtain ⟨n0, hn0⟩ : ∃ x, (S k).nc = x := ⟨_, rfl⟩
      obtain ⟨n1, hn1⟩ : ∃ x, (S k).nl = x := ⟨_, rfl⟩
      obtain ⟨n2, hn2⟩ : ∃ x, (S k).nw = x := ⟨_, rfl⟩
      have y0 := (TT.out.below.cell (p := ⟨g, o + k * 3, none⟩) hg).trans b0'
      have y1 := (TT.out.below.cell (p := ⟨g, o + k * 3 + 1, none⟩) hg).trans b1'
      have y2 := (TT.out.below.cell (p := ⟨g, o + k * 3 + 2, none⟩) hg).trans b2'
      rw [hn0] at y0
      rw [hn1] at y1
      rw [hn2] at y2
      rw [hn0, hn1, hn2] at sk
      have SK : Hid (St wr B (S k) (.slice i0' n0 d0') (.slice i1' n1 d1') (.slice i2' n2 d2')) := sk.later TT.out.below
      have ZG : Hid (g < w.heap.size) := hg
      have ZB : Hid (w.heap.size + 2 ≤ bo ∧ bo < wr.heap.size) := ⟨TT.out.lo, TT.out.blk.lt⟩
      have HS0 : Hid (CopE w (.slice (some ad) nr c0) (.slice (some ⟨g, o, none⟩) n c1) g o k (.slice i0' n0 d0') (.slice i1' n1 d1') (.slice i2' n2 d2') wr) := ⟨TT.out.box, y0, y1, y2⟩
      have G0 : wr.drew.cell? ⟨bo, 1, none⟩ = some (.slice sa k sc) := TT.out.blk.1.2
      clear sk e0' e1' e2' b0' b1' b2' hn0 hn1 hn2 y0 y1 y2 hg
      go_upto_region 5 with fail
      clear p0 p1
      refine wp_region_held_drew (S := CopE w (.slice (some ad) nr c0) (.slice (some ⟨g, o, none⟩) n c1) g o k (.slice i0' n0 d0') (.slice i1' n1 d1') (.slice i2' n2 d2')) (by kernel_rfl) (HS0.out.kept (fun _ _ => rfl)) (fun hS => ?_)
      clear HS0
      refine wpAnyH_take (i := 0) (v := ?_) rfl (by kernel_rfl) (by kernel_rfl) (by kernel_rfl) (fun _ _ _ h => h) (Or.inl ⟨by kernel_rfl, ?_⟩) hS ?_
      rotate_left
      · intro wx hx
        obtain ⟨⟨⟨hx0, hx1⟩, _⟩, hx2, hx3, hx4⟩ := hx
        go_simp
        try with_reducible rfl
      refine wpAnyH_take (i := 2) (v := ?_) rfl (by kernel_rfl) (by kernel_rfl) (by kernel_rfl) (fun _ _ _ h => h) (Or.inl ⟨by kernel_rfl, ?_⟩) hS ?_
      rotate_left
      · intro wx hx
        obtain ⟨⟨⟨hx0, hx1⟩, _⟩, hx2, hx3, hx4⟩ := hx
        go_simp
        try with_reducible rfl
      refine wpAnyH_take (i := 3) (v := ?_) rfl (by kernel_rfl) (by kernel_rfl) (by kernel_rfl) (fun _ _ _ h => h) (Or.inl ⟨by kernel_rfl, ?_⟩) hS ?_
      rotate_left
      · intro wx hx
        obtain ⟨⟨⟨hx0, hx1⟩, _⟩, hx2, hx3, hx4⟩ := hx
        go_simp
        try with_reducible rfl
      refine wpAnyH_take (i := 4) (v := ?_) rfl (by kernel_rfl) (by kernel_rfl) (by kernel_rfl) (fun _ _ _ h => h) (Or.inl ⟨by kernel_rfl, ?_⟩) hS ?_
      rotate_left
      · intro wx hx
        obtain ⟨⟨⟨hx0, hx1⟩, _⟩, hx2, hx3, hx4⟩ := hx
        go_simp
        try with_reducible rfl
      refine wpAnyH_take (i := 5) (v := ?_) rfl (by kernel_rfl) (by kernel_rfl) (by kernel_rfl) (fun _ _ _ h => h) (Or.inl ⟨by kernel_rfl, ?_⟩) hS ?_
      rotate_left
      · intro wx hx
        obtain ⟨⟨⟨hx0, hx1⟩, _⟩, hx2, hx3, hx4⟩ := hx
        go_simp
        try with_reducible rfl
      refine wpAnyH_take (i := 6) (v := ?_) rfl (by kernel_rfl) (by kernel_rfl) (by kernel_rfl) (fun _ _ _ h => h) (Or.inl ⟨by kernel_rfl, ?_⟩) hS ?_
      rotate_left
      · intro wx hx
        obtain ⟨⟨⟨hx0, hx1⟩, _⟩, hx2, hx3, hx4⟩ := hx
        go_simp
        try with_reducible rfl
      refine wpAnyH_ready (rs := [1, 7]) (by kernel_rfl) (by simp) ?_
      refine AllReadyH.cons rfl (fun K hK => ?_) (AllReadyH.cons rfl (fun K hK => ?_) AllReadyH.nil)
      · go_simp
        refine hK.out _ _ hS (fun hS => ?_)
        clear hK K
        refine wpAnyH_ready (rs := [7]) (by kernel_rfl) (by simp) ?_
        refine AllReadyH.cons rfl (fun K hK => ?_) AllReadyH.nil
        go_simp
        go_wp2_with fail
        refine (l2Copy_is (S k) _ _ _ B _ (SK.out.later (below_dr (Below.refl _ _) 1)) (HS.out k hlt)).mono ?_
        rintro e x2 ⟨d0, e0, d1, e1, d2, e2, rfl, ⟨s3, f3, a3⟩, q2⟩
        have q2' : Below wr.heap.size wr x2 := ⟨q2.os, q2.tape, q2.output, q2.size, q2.block⟩
        have TC : Hid (CopT w (.slice (some ad) nr c0) (.slice (some ⟨g, o, none⟩) n c1) nr F (.slice xa nr xc) bo S (x2.alloc (.cells #[.slice d0 (S k).nc e0, .slice d1 (S k).nl e1, .slice d2 (S k).nw e2] 45)) k U (.slice sa k sc)) := (TT.out.later q2').later (below_alloc _ _)
        have SC : Hid (St (x2.alloc (.cells #[.slice d0 (S k).nc e0, .slice d1 (S k).nl e1, .slice d2 (S k).nw e2] 45)) wr.heap.size (S k) (.slice d0 (S k).nc e0) (.slice d1 (S k).nl e1) (.slice d2 (S k).nw e2)) := s3.alloc _
        have G2 : x2.cell? ⟨bo, 1, none⟩ = some (.slice sa k sc) := (TT.out.later q2').blk.1.2
        have G3 : (x2.alloc (.cells #[.slice d0 (S k).nc e0, .slice d1 (S k).nl e1, .slice d2 (S k).nw e2] 45)).cell? ⟨bo, 1, none⟩ = some (.slice sa k sc) := TC.out.blk.1.2
        have hS2 : CopE w (.slice (some ad) nr c0) (.slice (some ⟨g, o, none⟩) n c1) g o k (.slice i0' n0 d0') (.slice i1' n1 d1') (.slice i2' n2 d2') x2 := hS.kept (fun q hq => q2.block q (by have := ZB.out; have := ZG.out; simp; rcases hq with e | e <;> omega))
        have hS3 : CopE w (.slice (some ad) nr c0) (.slice (some ⟨g, o, none⟩) n c1) g o k (.slice i0' n0 d0') (.slice i1' n1 d1') (.slice i2' n2 d2') (x2.alloc (.cells #[.slice d0 (S k).nc e0, .slice d1 (S k).nl e1, .slice d2 (S k).nw e2] 45)) := hS2.kept (fun q hq => (below_alloc x2 _).block q (by have := ZB.out; have := ZG.out; have := q2'.size; rcases hq with e | e <;> omega))
        clear s3 f3 a3 q2 q2'
        go_wp2_with fail
        refine hK.out _ _ hS2 (fun hS => ?_)
        clear hK K hS2
        refine wpAnyH_ready (rs := [8]) (by kernel_rfl) (by simp) ?_
        refine AllReadyH.cons rfl (fun K hK => ?_) AllReadyH.nil
        go_simp
        refine hK.out _ _ hS3 (fun hS => ?_)
        clear hK K
        refine wpAnyH_ready (rs := [9]) (by kernel_rfl) (by simp) ?_
        refine AllReadyH.cons rfl (fun K hK => ?_) AllReadyH.nil
        refine step_append_lies _ (by rfl) _ _ 34 (by rfl) (bo + 1) 45 j0 (.agg #[.slice none 0 0, .slice none 0 0, .slice none 0 0]) 3 72 Tryz.underlying34 gi gz0 gz1 gz2 rfl (by omega) (.slice sa k sc) k _ (by rfl) TC.out.rs ⟨x2.heap.size, 0, none⟩ 1 1 [.slice d0 (S k).nc e0, .slice d1 (S k).nl e1, .slice d2 (S k).nw e2] (by rfl) (by rfl) (World.news_of_block (cs := #[.slice d0 (S k).nc e0, .slice d1 (S k).nl e1, .slice d2 (S k).nw e2]) (t := 45) (fr := (0, 0)) (heap_alloc_new x2 _)) (by simp [Value.oneCell']) (by omega) (by unfold maxLen; omega) (by omega) TC.out.blk.lt (x2.heap.size + 1) (by simp) ?_
        intro hh cap' y OY GY AY LY
        have OS : OwnV y (bo + 1) (.slice (some ⟨hh, 0, none⟩) (k + 1) cap') (k + 1) (putU U k (.slice d0 (S k).nc e0) (.slice d1 (S k).nl e1) (.slice d2 (S k).nw e2)) := by
          unfold OwnV
          rw [listU_new]
          exact OY
        have T2 : Hid (CopT w (.slice (some ad) nr c0) (.slice (some ⟨g, o, none⟩) n c1) nr F (.slice xa nr xc) bo S (y.setCell ⟨bo, 1, none⟩ (.slice (some ⟨hh, 0, none⟩) (k + 1) cap')) (k + 1) (putU U k (.slice d0 (S k).nc e0) (.slice d1 (S k).nl e1) (.slice d2 (S k).nw e2)) (.slice (some ⟨hh, 0, none⟩) (k + 1) cap')) := TC.out.put (zz := wr.heap.size) SC.out TT.out.blk.lt (fun q e => (TT.out.rs.block q e).2) OS GY (by rcases AY with e | e; exact Or.inl e.symm; exact Or.inr (by rw [e]; simp [Value.ownBlock]))
        have nbs : ∀ q, q < bo + 1 → (Value.slice sa k sc).ownBlock ≠ some q := fun q hq e => by have := (TC.out.rs.block q e).1; omega
        have hSy : CopE w (.slice (some ad) nr c0) (.slice (some ⟨g, o, none⟩) n c1) g o k (.slice i0' n0 d0') (.slice i1' n1 d1') (.slice i2' n2 d2') y := hS3.kept (fun q hq => GY.block q (by have := ZB.out; have := ZG.out; have := TC.out.blk.lt; rcases hq with e | e <;> omega) (fun e => nbs q (by have := ZB.out; have := ZG.out; rcases hq with e | e <;> omega) e.symm))
        have hSz : CopE w (.slice (some ad) nr c0) (.slice (some ⟨g, o, none⟩) n c1) g o k (.slice i0' n0 d0') (.slice i1' n1 d1') (.slice i2' n2 d2') (y.setCell ⟨bo, 1, none⟩ (.slice (some ⟨hh, 0, none⟩) (k + 1) cap')) := hSy.kept (fun q hq => Below.heap_setCell _ _ _ q (by show q ≠ bo; have := ZB.out; have := ZG.out; rcases hq with e | e <;> omega))
        refine hK.out _ _ hSy (fun hS => ?_)
        clear hK K hSy
        refine wpAnyH_take (i := 10) (v := ?_) rfl (by kernel_rfl) (by kernel_rfl) (by kernel_rfl) (fun _ _ _ h => h) (Or.inl ⟨by kernel_rfl, ?_⟩) hS ?_
        rotate_left
        · intro wx hx
          obtain ⟨⟨⟨hx0, hx1⟩, _⟩, hx2, hx3, hx4⟩ := hx
          go_simp
          try with_reducible rfl
        obtain ⟨⟨t0, t1⟩, ft0, ft1⟩ := blk2_past TC.out.blk GY (nbs _ (by omega))
        refine wpAnyH_ready (rs := [11]) (by kernel_rfl) (by simp) ?_
        refine AllReadyH.cons rfl (fun K hK => ?_) AllReadyH.nil
        go_simp
        refine hK.out _ _ hSz (fun hS => ?_)
        clear hK K hSz
        refine wpAnyH_done (by kernel_rfl) ?_ _
        clear hS
        go_simp
        generalize y.setCell ⟨bo, 1, none⟩ (.slice (some ⟨hh, 0, none⟩) (k + 1) cap') = x4 at T2 ⊢
        clear t0 t1 ft0 ft1 OY GY AY LY OS TC SC TT G0 G2 G3 nbs hS3
        go_wp2
        go_roundw
        case rel => exact ⟨k + 1, putU U k (.slice d0 (S k).nc e0) (.slice d1 (S k).nl e1) (.slice d2 (S k).nw e2), some ⟨hh, 0, none⟩, cap', by omega, by go_num, T2⟩
        case measure => simp [intOf]; omega
      · go_simp
        go_wp2_with fail
        refine (l2Copy_is (S k) _ _ _ B _ (SK.out.later (below_dr (Below.refl _ _) 1)) (HS.out k hlt)).mono ?_
        rintro e x2 ⟨d0, e0, d1, e1, d2, e2, rfl, ⟨s3, f3, a3⟩, q2⟩
        have q2' : Below wr.heap.size wr x2 := ⟨q2.os, q2.tape, q2.output, q2.size, q2.block⟩
        have TC : Hid (CopT w (.slice (some ad) nr c0) (.slice (some ⟨g, o, none⟩) n c1) nr F (.slice xa nr xc) bo S (x2.alloc (.cells #[.slice d0 (S k).nc e0, .slice d1 (S k).nl e1, .slice d2 (S k).nw e2] 45)) k U (.slice sa k sc)) := (TT.out.later q2').later (below_alloc _ _)
        have SC : Hid (St (x2.alloc (.cells #[.slice d0 (S k).nc e0, .slice d1 (S k).nl e1, .slice d2 (S k).nw e2] 45)) wr.heap.size (S k) (.slice d0 (S k).nc e0) (.slice d1 (S k).nl e1) (.slice d2 (S k).nw e2)) := s3.alloc _
        have G2 : x2.cell? ⟨bo, 1, none⟩ = some (.slice sa k sc) := (TT.out.later q2').blk.1.2
        have G3 : (x2.alloc (.cells #[.slice d0 (S k).nc e0, .slice d1 (S k).nl e1, .slice d2 (S k).nw e2] 45)).cell? ⟨bo, 1, none⟩ = some (.slice sa k sc) := TC.out.blk.1.2
        have hS2 : CopE w (.slice (some ad) nr c0) (.slice (some ⟨g, o, none⟩) n c1) g o k (.slice i0' n0 d0') (.slice i1' n1 d1') (.slice i2' n2 d2') x2 := hS.kept (fun q hq => q2.block q (by have := ZB.out; have := ZG.out; simp; rcases hq with e | e <;> omega))
        have hS3 : CopE w (.slice (some ad) nr c0) (.slice (some ⟨g, o, none⟩) n c1) g o k (.slice i0' n0 d0') (.slice i1' n1 d1') (.slice i2' n2 d2') (x2.alloc (.cells #[.slice d0 (S k).nc e0, .slice d1 (S k).nl e1, .slice d2 (S k).nw e2] 45)) := hS2.kept (fun q hq => (below_alloc x2 _).block q (by have := ZB.out; have := ZG.out; have := q2'.size; rcases hq with e | e <;> omega))
        clear s3 f3 a3 q2 q2'
        go_wp2_with fail
        refine hK.out _ _ hS2 (fun hS => ?_)
        clear hK K hS2
        refine wpAnyH_ready (rs := [1, 8]) (by kernel_rfl) (by simp) ?_
        refine AllReadyH.cons rfl (fun K hK => ?_) (AllReadyH.cons rfl (fun K hK => ?_) AllReadyH.nil)
        · go_simp
          refine hK.out _ _ hS (fun hS => ?_)
          clear hK K
          refine wpAnyH_ready (rs := [8]) (by kernel_rfl) (by simp) ?_
          refine AllReadyH.cons rfl (fun K hK => ?_) AllReadyH.nil
          go_simp
          refine hK.out _ _ hS3 (fun hS => ?_)
          clear hK K
          refine wpAnyH_ready (rs := [9]) (by kernel_rfl) (by simp) ?_
          refine AllReadyH.cons rfl (fun K hK => ?_) AllReadyH.nil
          refine step_append_lies _ (by rfl) _ _ 34 (by rfl) (bo + 1) 45 j0 (.agg #[.slice none 0 0, .slice none 0 0, .slice none 0 0]) 3 72 Tryz.underlying34 gi gz0 gz1 gz2 rfl (by omega) (.slice sa k sc) k _ (by rfl) TC.out.rs ⟨x2.heap.size, 0, none⟩ 1 1 [.slice d0 (S k).nc e0, .slice d1 (S k).nl e1, .slice d2 (S k).nw e2] (by rfl) (by rfl) (World.news_of_block (cs := #[.slice d0 (S k).nc e0, .slice d1 (S k).nl e1, .slice d2 (S k).nw e2]) (t := 45) (fr := (0, 0)) (heap_alloc_new x2 _)) (by simp [Value.oneCell']) (by omega) (by unfold maxLen; omega) (by omega) TC.out.blk.lt (x2.heap.size + 1) (by simp) ?_
          intro hh cap' y OY GY AY LY
          have OS : OwnV y (bo + 1) (.slice (some ⟨hh, 0, none⟩) (k + 1) cap') (k + 1) (putU U k (.slice d0 (S k).nc e0) (.slice d1 (S k).nl e1) (.slice d2 (S k).nw e2)) := by
            unfold OwnV
            rw [listU_new]
            exact OY
          have T2 : Hid (CopT w (.slice (some ad) nr c0) (.slice (some ⟨g, o, none⟩) n c1) nr F (.slice xa nr xc) bo S (y.setCell ⟨bo, 1, none⟩ (.slice (some ⟨hh, 0, none⟩) (k + 1) cap')) (k + 1) (putU U k (.slice d0 (S k).nc e0) (.slice d1 (S k).nl e1) (.slice d2 (S k).nw e2)) (.slice (some ⟨hh, 0, none⟩) (k + 1) cap')) := TC.out.put (zz := wr.heap.size) SC.out TT.out.blk.lt (fun q e => (TT.out.rs.block q e).2) OS GY (by rcases AY with e | e; exact Or.inl e.symm; exact Or.inr (by rw [e]; simp [Value.ownBlock]))
          have nbs : ∀ q, q < bo + 1 → (Value.slice sa k sc).ownBlock ≠ some q := fun q hq e => by have := (TC.out.rs.block q e).1; omega
          have hSy : CopE w (.slice (some ad) nr c0) (.slice (some ⟨g, o, none⟩) n c1) g o k (.slice i0' n0 d0') (.slice i1' n1 d1') (.slice i2' n2 d2') y := hS3.kept (fun q hq => GY.block q (by have := ZB.out; have := ZG.out; have := TC.out.blk.lt; rcases hq with e | e <;> omega) (fun e => nbs q (by have := ZB.out; have := ZG.out; rcases hq with e | e <;> omega) e.symm))
          have hSz : CopE w (.slice (some ad) nr c0) (.slice (some ⟨g, o, none⟩) n c1) g o k (.slice i0' n0 d0') (.slice i1' n1 d1') (.slice i2' n2 d2') (y.setCell ⟨bo, 1, none⟩ (.slice (some ⟨hh, 0, none⟩) (k + 1) cap')) := hSy.kept (fun q hq => Below.heap_setCell _ _ _ q (by show q ≠ bo; have := ZB.out; have := ZG.out; rcases hq with e | e <;> omega))
          refine hK.out _ _ hSy (fun hS => ?_)
          clear hK K hSy
          refine wpAnyH_take (i := 10) (v := ?_) rfl (by kernel_rfl) (by kernel_rfl) (by kernel_rfl) (fun _ _ _ h => h) (Or.inl ⟨by kernel_rfl, ?_⟩) hS ?_
          rotate_left
          · intro wx hx
            obtain ⟨⟨⟨hx0, hx1⟩, _⟩, hx2, hx3, hx4⟩ := hx
            go_simp
            try with_reducible rfl
          obtain ⟨⟨t0, t1⟩, ft0, ft1⟩ := blk2_past TC.out.blk GY (nbs _ (by omega))
          refine wpAnyH_ready (rs := [11]) (by kernel_rfl) (by simp) ?_
          refine AllReadyH.cons rfl (fun K hK => ?_) AllReadyH.nil
          go_simp
          refine hK.out _ _ hSz (fun hS => ?_)
          clear hK K hSz
          refine wpAnyH_done (by kernel_rfl) ?_ _
          clear hS
          go_simp
          generalize y.setCell ⟨bo, 1, none⟩ (.slice (some ⟨hh, 0, none⟩) (k + 1) cap') = x4 at T2 ⊢
          clear t0 t1 ft0 ft1 OY GY AY LY OS TC SC TT G0 G2 G3 nbs hS3
          go_wp2
          go_roundw
          case rel => exact ⟨k + 1, putU U k (.slice d0 (S k).nc e0) (.slice d1 (S k).nl e1) (.slice d2 (S k).nw e2), some ⟨hh, 0, none⟩, cap', by omega, by go_num, T2⟩
          case measure => simp [intOf]; omega
        · go_simp
          refine hK.out _ _ hS3 (fun hS => ?_)
          clear hK K
          refine wpAnyH_ready (rs := [1]) (by kernel_rfl) (by simp) ?_
          refine AllReadyH.cons rfl (fun K hK => ?_) AllReadyH.nil
          go_simp
          refine hK.out _ _ hS (fun hS => ?_)
          clear hK K
          refine wpAnyH_ready (rs := [9]) (by kernel_rfl) (by simp) ?_
          refine AllReadyH.cons rfl (fun K hK => ?_) AllReadyH.nil
          refine step_append_lies _ (by rfl) _ _ 34 (by rfl) (bo + 1) 45 j0 (.agg #[.slice none 0 0, .slice none 0 0, .slice none 0 0]) 3 72 Tryz.underlying34 gi gz0 gz1 gz2 rfl (by omega) (.slice sa k sc) k _ (by rfl) TC.out.rs ⟨x2.heap.size, 0, none⟩ 1 1 [.slice d0 (S k).nc e0, .slice d1 (S k).nl e1, .slice d2 (S k).nw e2] (by rfl) (by rfl) (World.news_of_block (cs := #[.slice d0 (S k).nc e0, .slice d1 (S k).nl e1, .slice d2 (S k).nw e2]) (t := 45) (fr := (0, 0)) (heap_alloc_new x2 _)) (by simp [Value.oneCell']) (by omega) (by unfold maxLen; omega) (by omega) TC.out.blk.lt (x2.heap.size + 1) (by simp) ?_
          intro hh cap' y OY GY AY LY
          have OS : OwnV y (bo + 1) (.slice (some ⟨hh, 0, none⟩) (k + 1) cap') (k + 1) (putU U k (.slice d0 (S k).nc e0) (.slice d1 (S k).nl e1) (.slice d2 (S k).nw e2)) := by
            unfold OwnV
            rw [listU_new]
            exact OY
          have T2 : Hid (CopT w (.slice (some ad) nr c0) (.slice (some ⟨g, o, none⟩) n c1) nr F (.slice xa nr xc) bo S (y.setCell ⟨bo, 1, none⟩ (.slice (some ⟨hh, 0, none⟩) (k + 1) cap')) (k + 1) (putU U k (.slice d0 (S k).nc e0) (.slice d1 (S k).nl e1) (.slice d2 (S k).nw e2)) (.slice (some ⟨hh, 0, none⟩) (k + 1) cap')) := TC.out.put (zz := wr.heap.size) SC.out TT.out.blk.lt (fun q e => (TT.out.rs.block q e).2) OS GY (by rcases AY with e | e; exact Or.inl e.symm; exact Or.inr (by rw [e]; simp [Value.ownBlock]))
          have nbs : ∀ q, q < bo + 1 → (Value.slice sa k sc).ownBlock ≠ some q := fun q hq e => by have := (TC.out.rs.block q e).1; omega
          have hSy : CopE w (.slice (some ad) nr c0) (.slice (some ⟨g, o, none⟩) n c1) g o k (.slice i0' n0 d0') (.slice i1' n1 d1') (.slice i2' n2 d2') y := hS3.kept (fun q hq => GY.block q (by have := ZB.out; have := ZG.out; have := TC.out.blk.lt; rcases hq with e | e <;> omega) (fun e => nbs q (by have := ZB.out; have := ZG.out; rcases hq with e | e <;> omega) e.symm))
          have hSz : CopE w (.slice (some ad) nr c0) (.slice (some ⟨g, o, none⟩) n c1) g o k (.slice i0' n0 d0') (.slice i1' n1 d1') (.slice i2' n2 d2') (y.setCell ⟨bo, 1, none⟩ (.slice (some ⟨hh, 0, none⟩) (k + 1) cap')) := hSy.kept (fun q hq => Below.heap_setCell _ _ _ q (by show q ≠ bo; have := ZB.out; have := ZG.out; rcases hq with e | e <;> omega))
          refine hK.out _ _ hSy (fun hS => ?_)
          clear hK K hSy
          refine wpAnyH_take (i := 10) (v := ?_) rfl (by kernel_rfl) (by kernel_rfl) (by kernel_rfl) (fun _ _ _ h => h) (Or.inl ⟨by kernel_rfl, ?_⟩) hS ?_
          rotate_left
          · intro wx hx
            obtain ⟨⟨⟨hx0, hx1⟩, _⟩, hx2, hx3, hx4⟩ := hx
            go_simp
            try with_reducible rfl
          obtain ⟨⟨t0, t1⟩, ft0, ft1⟩ := blk2_past TC.out.blk GY (nbs _ (by omega))
          refine wpAnyH_ready (rs := [11]) (by kernel_rfl) (by simp) ?_
          refine AllReadyH.cons rfl (fun K hK => ?_) AllReadyH.nil
          go_simp
          refine hK.out _ _ hSz (fun hS => ?_)
          clear hK K hSz
          refine wpAnyH_done (by kernel_rfl) ?_ _
          clear hS
          go_simp
          generalize y.setCell ⟨bo, 1, none⟩ (.slice (some ⟨hh, 0, none⟩) (k + 1) cap') = x4 at T2 ⊢
          clear t0 t1 ft0 ft1 OY GY AY LY OS TC SC TT G0 G2 G3 nbs hS3
          go_wp2
          go_roundw
          case rel => exact ⟨k + 1, putU U k (.slice d0 (S k).nc e0) (.slice d1 (S k).nl e1) (.slice d2 (S k).nw e2), some ⟨hh, 0, none⟩, cap', by omega, by go_num, T2⟩
          case measure => simp [intOf]; omega
    · obtain rfl : k = n := by omega
      obtain ⟨⟨t0, t1⟩, _⟩ := TT.out.blk
      obtain ⟨⟨r0, r1⟩, f0, f1⟩ := TT.out.res
      go_wp2
      refine bodyPost_ret (v := .agg #[.slice xa nr xc, .slice sa k sc]) (by simp [results, Tryz.results37, go_sem, r0, r1]) rfl ⟨.slice xa nr xc, .slice sa k sc, U, rfl, ⟨?_, ?_, ?_, ?_⟩, (TT.out.below.setCell (Nat.le_succ _) _).setCell (Nat.le_succ _) _⟩
      · exact ((TT.out.rr.within (within_set _ (w.heap.size + 1) 0 _) (fun hp q hq => Or.inr (TT.out.rr.lt hp q hq).1)).within (within_set _ (w.heap.size + 1) 1 _) (fun hp q hq => Or.inr (TT.out.rr.lt hp q hq).1)).mono (by omega)
      · have hl := TT.out.lo
        have h1 := (TT.out.rs.far (a := ⟨w.heap.size + 1, 0, none⟩) (by show w.heap.size + 1 < bo + 1; omega) (.slice xa nr xc)).far (a := ⟨w.heap.size + 1, 1, none⟩) (by show w.heap.size + 1 < bo + 1; omega) (.slice sa k sc)
        exact World.ownsRow.mono h1 (by omega)
      · intro i hi
        have hl := TT.out.lo
        exact (((TT.out.st i hi).farO (b := w.heap.size + 1) (by omega) _).farO (b := w.heap.size + 1) (by omega) _).mono (by omega)
      · intro q hq
        exact ⟨TT.out.sp q hq, fun e => by have := TT.out.rb hr.1 q e; have := (TT.out.rs.block q hq).1; omega⟩
end

section
open Go.RowKit Go.Maps
-- Own text. PutStore, the model's side; and both sides' answers.
/-- A code, and groups: what the model answers. -/
def ResGw (w : World) (c : Int) (nr : Nat) (F : Nat → Int) (n : Nat) (S : Nat → Sto) (e : Ending) (w' : World) : Prop :=
  ∃ ra rc sa sc U, e = .returned (.agg #[.int .i64 c, .slice ra nr rc, .slice sa n sc]) ∧ Grs w' 0 nr F n S U (.slice ra nr rc) (.slice sa n sc) ∧ Below w.heap.size w w'
theorem grs_nil (w : World) (F : Nat → Int) (R : Nat → Sto) (xa : Option Addr) (xc : Nat) (ya : Option Addr) (yc : Nat) : Grs w 0 0 F 0 R (fun _ _ => .bool true) (.slice xa 0 xc) (.slice ya 0 yc) :=
  ⟨⟨_, _, rfl, fun h => absurd h (Nat.lt_irrefl 0)⟩, ⟨_, _, rfl, fun h => absurd h (Nat.lt_irrefl 0)⟩, fun i hi => absurd hi (Nat.not_lt_zero i)⟩
theorem Grs.set3 {x : World} {nr : Nat} {F : Nat → Int} {n : Nat} {S : Nat → Sto} {U : Nat → Nat → Value} {vr vs : Value} {B b : Nat} (h : Grs x B nr F n S U vr vs) (hb : b < B) (u0 u1 u2 : Value) : Grs (((x.setCell ⟨b, 0, none⟩ u0).setCell ⟨b, 1, none⟩ u1).setCell ⟨b, 2, none⟩ u2) B nr F n S U vr vs := by
  have one : ∀ {x : World} {j : Nat} {u : Value}, Grs x B nr F n S U vr vs → Grs (x.setCell ⟨b, j, none⟩ u) B nr F n S U vr vs := fun {x j u} h => by
    refine ⟨h.1.within (within_set x b j u) (fun hp q hq => Or.inr (by have := (h.1.lt hp q hq).1; omega)), ?_, fun i hi => (h.2.2 i hi).farO hb u⟩
    obtain ⟨⟨ao, cp, hv, h1⟩, h2⟩ := h.2
    refine ⟨ao, cp, hv, fun hn => ?_⟩
    obtain ⟨g, o, e, hl, hg, hc⟩ := h1 hn
    have eb : (x.setCell ⟨b, j, none⟩ u).heap[g]? = x.heap[g]? := Below.heap_setCell x _ u g (by show g ≠ b; omega)
    refine ⟨g, o, e, hl, by simpa [World.setCell] using hg, fun i hi => ?_⟩
    obtain ⟨k0, k1, k2⟩ := hc i hi
    exact ⟨(World.cell?_of_block (w := x) (a := ⟨g, o + i * 3, none⟩) eb).trans k0, (World.cell?_of_block (w := x) (a := ⟨g, o + i * 3 + 1, none⟩) eb).trans k1, (World.cell?_of_block (w := x) (a := ⟨g, o + i * 3 + 2, none⟩) eb).trans k2⟩
  exact one (one (one h))
/-- What the putting region of the model reads. -/
def PutE (w : World) (t0 t1 t2 : Value) (b8 : Nat) (xr vS : Value) (x : World) : Prop := Blk2 x b8 xr vS ∧ Blk3 x (w.heap.size + 1) t0 t1 t2
set_option maxRecDepth 100000 in
set_option maxHeartbeats 8000000 in
theorem specPutStore_bad (nr : Nat) (F : Nat → Int) (n : Nat) (S : Nat → Sto) (V : Nat → Nat → Value) (vr vs : Value) (pl : Int) (T : Sto) (t0 t1 t2 : Value) (c : Int) (F' : Nat → Int) (R : Nat → Sto) (B : Nat) (w : World) (h : Grs w B nr F n S V vr vs) (hs : St w B T t0 t1 t2) (hr : nr ≤ 9223372036854775807) (hn : n ≤ 9223372036854775807) (hA : groupsF nr F n S ≠ 0 ∧ c = groupsF nr F n S ∨ groupsF nr F n S = 0 ∧ ¬ (0 ≤ pl ∧ pl < n) ∧ c = 3) :
    Calls Tryz.prog 9 #[.agg #[vr, vs], .int .i64 pl, .agg #[t0, t1, t2]] w (ResGw w c 0 F' 0 R) := by
  unfold ResGw
  obtain ⟨a0, c0, a1, c1, rfl, rfl⟩ := h.form
  obtain ⟨i0, k0, i1, k1, i2, k2, rfl, rfl, rfl⟩ := hs.form
  have HG : Hid (Grs w B nr F n S V (.slice a0 nr c0) (.slice a1 n c1)) := h
  have HT : Hid (St w B T (.slice i0 T.nc k0) (.slice i1 T.nl k1) (.slice i2 T.nw k2)) := hs
  obtain ⟨m0, hm0⟩ : ∃ x, T.nc = x := ⟨_, rfl⟩
  obtain ⟨m1, hm1⟩ : ∃ x, T.nl = x := ⟨_, rfl⟩
  obtain ⟨m2, hm2⟩ : ∃ x, T.nw = x := ⟨_, rfl⟩
  rw [hm0, hm1, hm2] at HT ⊢
  clear hm0 hm1 hm2
  have HE : Hid (CallP w (.slice a0 nr c0) (.slice a1 n c1) (.slice i0 m0 k0) (.slice i1 m1 k1) (.slice i2 m2 k2) (((w.alloc (.cells #[.slice a0 nr c0, .slice a1 n c1] 36)).alloc (.cells #[.slice i0 m0 k0, .slice i1 m1 k1, .slice i2 m2 k2] 45)).alloc (.cells #[.int .i64 0, .slice none 0 0, .slice none 0 0] 38))) := CallP.new w _ _ _ _ _ _ _ _
  clear h hs
  obtain ⟨f, hf⟩ : ∃ f, groupsF nr F n S = f := ⟨_, rfl⟩
  have HF : Hid (groupsF nr F n S = f) := hf
  obtain ⟨⟨p0, p1⟩, _⟩ := HE.out.1
  rcases hA with ⟨hz, hc⟩ | ⟨hz, hp, rfl⟩
  · rw [hf] at hz hc
    subst hc
    have d : (c == 0) = false := beq_eq_false_iff_ne.2 hz
    have d' : (c != 0) = true := bne_iff_ne.2 hz
    clear hz HF
    go_enter Tryz.func9, Tryz.ntmps9
    go_wp2_with fail
    refine (l7Fault_any nr F n S V _ _ w.heap.size _ ⟨⟨p0, p1⟩, (HG.out.later HE.out.2.2.2).mono (Nat.zero_le _)⟩ hr hn).mono ?_
    rw [hf]
    rintro e w1 ⟨rfl, q1⟩
    have HE : Hid (CallP w (.slice a0 nr c0) (.slice a1 n c1) (.slice i0 m0 k0) (.slice i1 m1 k1) (.slice i2 m2 k2) w1) := HE.out.later q1
    clear q1 p0 p1 hf
    obtain ⟨⟨p0, p1⟩, _⟩ := HE.out.1
    obtain ⟨⟨r0, r1, r2⟩, f0, f1, f2⟩ := HE.out.2.2.1
    go_wp2_with fail
    refine (l7Bad_is c F' R _).mono ?_
    rintro e w4 ⟨xa, xc, ya, yc, U, z, rfl, _, q4⟩
    have HE4 : Hid (CallP w (.slice a0 nr c0) (.slice a1 n c1) (.slice i0 m0 k0) (.slice i1 m1 k1) (.slice i2 m2 k2) w4) := HE.out.later q4
    clear q4 r0 r1 r2 f0 f1 f2
    obtain ⟨⟨r0, r1, r2⟩, f0, f1, f2⟩ := HE4.out.2.2.1
    go_wp2
    exact bodyPost_ret (v := .agg #[.int .i64 c, .slice xa 0 xc, .slice ya 0 yc]) (by simp [results, Tryz.results9, go_sem, r0, r1, r2]) rfl ⟨xa, xc, ya, yc, _, rfl, grs_nil _ _ _ _ _ _ _, ((HE4.out.2.2.2.setCell (Nat.le_add_right _ 2) _).setCell (Nat.le_add_right _ 2) _).setCell (Nat.le_add_right _ 2) _⟩
  · rw [hf] at hz
    subst hz
    have LI : Hid (decide ((0 : Int) ≤ pl ∧ pl ≤ (n : Int) - 1) = false) := decide_eq_false (by omega)
    clear HF hp
    go_enter Tryz.func9, Tryz.ntmps9
    go_wp2_with fail
    refine (l7Fault_any nr F n S V _ _ w.heap.size _ ⟨⟨p0, p1⟩, (HG.out.later HE.out.2.2.2).mono (Nat.zero_le _)⟩ hr hn).mono ?_
    rw [hf]
    rintro e w1 ⟨rfl, q1⟩
    have HE : Hid (CallP w (.slice a0 nr c0) (.slice a1 n c1) (.slice i0 m0 k0) (.slice i1 m1 k1) (.slice i2 m2 k2) w1) := HE.out.later q1
    clear q1 p0 p1 hf
    obtain ⟨⟨p0, p1⟩, _⟩ := HE.out.1
    obtain ⟨⟨r0, r1, r2⟩, f0, f1, f2⟩ := HE.out.2.2.1
    go_wp2_with fail
    refine (l1In_is _ _ _ false LI.out _).mono ?_
    rintro e w2 ⟨rfl, rfl⟩
    go_wp2_with fail
    refine (l7Bad_is 3 F' R _).mono ?_
    rintro e w4 ⟨xa, xc, ya, yc, U, z, rfl, _, q4⟩
    have HE4 : Hid (CallP w (.slice a0 nr c0) (.slice a1 n c1) (.slice i0 m0 k0) (.slice i1 m1 k1) (.slice i2 m2 k2) w4) := HE.out.later q4
    clear q4 r0 r1 r2 f0 f1 f2
    obtain ⟨⟨r0, r1, r2⟩, f0, f1, f2⟩ := HE4.out.2.2.1
    go_wp2
    exact bodyPost_ret (v := .agg #[.int .i64 3, .slice xa 0 xc, .slice ya 0 yc]) (by simp [results, Tryz.results9, go_sem, r0, r1, r2]) rfl ⟨xa, xc, ya, yc, _, rfl, grs_nil _ _ _ _ _ _ _, ((HE4.out.2.2.2.setCell (Nat.le_add_right _ 2) _).setCell (Nat.le_add_right _ 2) _).setCell (Nat.le_add_right _ 2) _⟩
set_option maxRecDepth 100000 in
set_option maxHeartbeats 16000000 in
theorem specPutStore_full (nr : Nat) (F : Nat → Int) (n : Nat) (S : Nat → Sto) (V : Nat → Nat → Value) (vr vs : Value) (j : Nat) (T : Sto) (t0 t1 t2 : Value) (c : Int) (F' : Nat → Int) (R : Nat → Sto) (B : Nat) (w : World) (h : Grs w B nr F n S V vr vs) (hs : St w B T t0 t1 t2) (hr : nr ≤ 9223372036854775807) (hn : n ≤ 9223372036854775807) (ht : T.nc ≤ 1048576 ∧ T.nl ≤ 1048576 ∧ T.nw ≤ 1048576) (hj : j < n) (hz : groupsF nr F n S = 0) (hc : groupsF nr F n (putT S j T) = c) (hc0 : c ≠ 0) :
    Calls Tryz.prog 9 #[.agg #[vr, vs], .int .i64 (j : Int), .agg #[t0, t1, t2]] w (ResGw w c 0 F' 0 R) := by
  unfold ResGw
  have HC : Hid (c ≠ 0) := hc0
  have HTT : Hid (T.nc ≤ 1048576 ∧ T.nl ≤ 1048576 ∧ T.nw ≤ 1048576) := ht
  clear hc0 ht
  obtain ⟨a0, c0, a1, c1, rfl, rfl⟩ := h.form
  obtain ⟨i0, k0, i1, k1, i2, k2, rfl, rfl, rfl⟩ := hs.form
  have HG : Hid (Grs w B nr F n S V (.slice a0 nr c0) (.slice a1 n c1)) := h
  have HT : Hid (St w B T (.slice i0 T.nc k0) (.slice i1 T.nl k1) (.slice i2 T.nw k2)) := hs
  obtain ⟨m0, hm0⟩ : ∃ x, T.nc = x := ⟨_, rfl⟩
  obtain ⟨m1, hm1⟩ : ∃ x, T.nl = x := ⟨_, rfl⟩
  obtain ⟨m2, hm2⟩ : ∃ x, T.nw = x := ⟨_, rfl⟩
  rw [hm0, hm1, hm2] at HT ⊢
  clear hm0 hm1 hm2
  have HE : Hid (CallP w (.slice a0 nr c0) (.slice a1 n c1) (.slice i0 m0 k0) (.slice i1 m1 k1) (.slice i2 m2 k2) (((w.alloc (.cells #[.slice a0 nr c0, .slice a1 n c1] 36)).alloc (.cells #[.slice i0 m0 k0, .slice i1 m1 k1, .slice i2 m2 k2] 45)).alloc (.cells #[.int .i64 0, .slice none 0 0, .slice none 0 0] 38))) := CallP.new w _ _ _ _ _ _ _ _
  clear h hs
  obtain ⟨f, hf⟩ : ∃ f, groupsF nr F n S = f := ⟨_, rfl⟩
  have HF : Hid (groupsF nr F n S = f) := hf
  obtain ⟨⟨p0, p1⟩, _⟩ := HE.out.1
  rw [hf] at hz
  subst hz
  have Z := groupsF_zero HF.out
  have N6 : Hid ((n ≤ 6 ∧ n = nr) ∧ ∀ i, i < n → (S i).nc ≤ 1048576 ∧ (S i).nl ≤ 1048576 ∧ (S i).nw ≤ 1048576) := ⟨⟨by have := Z.1.n6; have := Z.2.1; omega, Z.2.1⟩, fun i hi => by have := (storeF_zero (Z.2.2.1 i hi).1).1; omega⟩
  have HQ : Hid (groupsF nr F n (putT S j T) = c) := hc
  have LI : Hid (decide ((0 : Int) ≤ (j : Int) ∧ (j : Int) ≤ (n : Int) - 1) = true) := decide_eq_true (by omega)
  clear Z HF hc
  go_enter Tryz.func9, Tryz.ntmps9
  go_wp2_with fail
  refine (l7Fault_any nr F n S V _ _ w.heap.size _ ⟨⟨p0, p1⟩, (HG.out.later HE.out.2.2.2).mono (Nat.zero_le _)⟩ hr hn).mono ?_
  rw [hf]
  rintro e w1 ⟨rfl, q1⟩
  have HE : Hid (CallP w (.slice a0 nr c0) (.slice a1 n c1) (.slice i0 m0 k0) (.slice i1 m1 k1) (.slice i2 m2 k2) w1) := HE.out.later q1
  clear q1 p0 p1 hf
  obtain ⟨⟨p0, p1⟩, _⟩ := HE.out.1
  obtain ⟨⟨r0, r1, r2⟩, f0, f1, f2⟩ := HE.out.2.2.1
  go_wp2_with fail
  refine (l1In_is _ _ _ true LI.out _).mono ?_
  rintro e w2 ⟨rfl, rfl⟩
  go_wp2_with fail
  refine (l7Copy_is nr F n S V _ _ B _ (HG.out.later HE.out.2.2.2) (by have := N6.out.1; omega) (by have := N6.out.1; omega) N6.out.2).mono ?_
  rintro e w4 ⟨xr, vS, U, rfl, ⟨hR4, hV4, hS4, hP4⟩, q4⟩
  obtain ⟨xa, xc, rfl⟩ := hR4.form
  obtain ⟨g, cq, rfl⟩ : ∃ g cq, vS = .slice (some ⟨g, 0, none⟩) n cq := by
    rcases hV4.2 with ⟨_, q⟩ | ⟨g, cap, cur, rfl, _⟩
    · exact absurd q (by omega)
    · exact ⟨g, cap, rfl⟩
  have z1 := HE.out.sz
  have gb := hV4.block g rfl
  have HE5 : Hid (CallP w (.slice a0 nr c0) (.slice a1 n c1) (.slice i0 m0 k0) (.slice i1 m1 k1) (.slice i2 m2 k2) (w4.alloc (.cells #[.slice xa nr xc, .slice (some ⟨g, 0, none⟩) n cq] 36))) := (HE.out.later q4).later (below_alloc _ _)
  have B5 : Hid (Blk2 (w4.alloc (.cells #[.slice xa nr xc, .slice (some ⟨g, 0, none⟩) n cq] 36)) w4.heap.size (.slice xa nr xc) (.slice (some ⟨g, 0, none⟩) n cq)) := Blk2.new _ _ _ _
  have C5 : Hid ((Row (w4.alloc (.cells #[.slice xa nr xc, .slice (some ⟨g, 0, none⟩) n cq] 36)) (w.heap.size + 3) 3 nr F (.slice xa nr xc) ∧ FillS (w4.alloc (.cells #[.slice xa nr xc, .slice (some ⟨g, 0, none⟩) n cq] 36)) g n n U) ∧ (∀ i, i < n → St (w4.alloc (.cells #[.slice xa nr xc, .slice (some ⟨g, 0, none⟩) n cq] 36)) (w.heap.size + 3) (S i) (U i 0) (U i 1) (U i 2)) ∧ Spare n S U g ∧ (Value.slice xa nr xc).ownBlock ≠ some g) := ⟨⟨(hR4.mono z1).alloc _, hV4.fill.later (below_alloc _ _)⟩, fun i hi => ((hS4 i hi).mono z1).alloc _, (hP4 g rfl).1, (hP4 g rfl).2⟩
  have ZG : Hid (w.heap.size + 3 ≤ g ∧ g < w4.heap.size) := ⟨Nat.le_trans z1 gb.1, gb.2⟩
  have ZB : Hid (w.heap.size + 3 ≤ w4.heap.size) := by have := gb.2; have := gb.1; unfold Hid; omega
  clear q4 hR4 hV4 hS4 hP4 z1 gb HE p0 p1 r0 r1 r2 f0 f1 f2
  go_upto_region 7 with fail
  generalize w4.alloc (.cells #[.slice xa nr xc, .slice (some ⟨g, 0, none⟩) n cq] 36) = w5 at HE5 B5 C5 ⊢
  have ZX : Hid (w4.heap.size < w5.heap.size) := B5.out.lt
  generalize hb8 : w4.heap.size = b8 at B5 ZG ZB ZX ⊢
  clear hb8
  refine wp_region_held_drew (S := PutE w (.slice i0 m0 k0) (.slice i1 m1 k1) (.slice i2 m2 k2) b8 (.slice xa nr xc) (.slice (some ⟨g, 0, none⟩) n cq)) (by kernel_rfl) ⟨B5.out.kept rfl, HE5.out.2.1.kept rfl⟩ (fun hS => ?_)
  refine wpAnyH_take (i := 0) (v := ?_) rfl (by kernel_rfl) (by kernel_rfl) (by kernel_rfl) (fun _ _ _ h => h) (Or.inl ⟨by kernel_rfl, ?_⟩) hS ?_
  rotate_left
  · intro wx hx
    obtain ⟨⟨⟨hx0, hx1⟩, _⟩, ⟨⟨hx2, hx3, hx4⟩, _⟩⟩ := hx
    go_simp
    try with_reducible rfl
  refine wpAnyH_take (i := 1) (v := ?_) rfl (by kernel_rfl) (by kernel_rfl) (by kernel_rfl) (fun _ _ _ h => h) (Or.inl ⟨by kernel_rfl, ?_⟩) hS ?_
  rotate_left
  · intro wx hx
    obtain ⟨⟨⟨hx0, hx1⟩, _⟩, ⟨⟨hx2, hx3, hx4⟩, _⟩⟩ := hx
    go_simp
    try with_reducible rfl
  refine wpAnyH_take (i := 2) (v := ?_) rfl (by kernel_rfl) (by kernel_rfl) (by kernel_rfl) (fun _ _ _ h => h) (Or.inl ⟨by kernel_rfl, ?_⟩) hS ?_
  rotate_left
  · intro wx hx
    obtain ⟨⟨⟨hx0, hx1⟩, _⟩, ⟨⟨hx2, hx3, hx4⟩, _⟩⟩ := hx
    go_simp
    try with_reducible rfl
  refine wpAnyH_take (i := 3) (v := ?_) rfl (by kernel_rfl) (by kernel_rfl) (by kernel_rfl) (fun _ _ _ h => h) (Or.inl ⟨by kernel_rfl, ?_⟩) hS ?_
  rotate_left
  · intro wx hx
    obtain ⟨⟨⟨hx0, hx1⟩, _⟩, ⟨⟨hx2, hx3, hx4⟩, _⟩⟩ := hx
    go_simp
    try with_reducible rfl
  refine wpAnyH_ready (rs := [4]) (by kernel_rfl) (by simp) ?_
  refine AllReadyH.cons rfl (fun K hK => ?_) AllReadyH.nil
  go_simp
  go_wp2_with fail
  refine (l2Copy_is T _ _ _ B _ (HT.out.later HE5.out.2.2.2.drew) HTT.out).mono ?_
  rintro e w6 ⟨d0, e0, d1, e1, d2, e2, rfl, ⟨s6, _, _⟩, q6⟩
  have q6' : Below w5.heap.size w5 w6 := ⟨q6.os, q6.tape, q6.output, q6.size, q6.block⟩
  have z6 : Hid (w5.heap.size ≤ w6.heap.size) := q6'.size
  have T6 : Hid (St w6 w5.heap.size T (.slice d0 T.nc e0) (.slice d1 T.nl e1) (.slice d2 T.nw e2)) := s6
  have HE6 : Hid (CallP w (.slice a0 nr c0) (.slice a1 n c1) (.slice i0 m0 k0) (.slice i1 m1 k1) (.slice i2 m2 k2) w6) := HE5.out.later q6'
  have B6 : Hid (Blk2 w6 b8 (.slice xa nr xc) (.slice (some ⟨g, 0, none⟩) n cq)) := B5.out.later q6'
  have C6 : Hid ((Row w6 (w.heap.size + 3) 3 nr F (.slice xa nr xc) ∧ FillS w6 g n n U) ∧ (∀ i, i < n → St w6 (w.heap.size + 3) (S i) (U i 0) (U i 1) (U i 2)) ∧ Spare n S U g ∧ (Value.slice xa nr xc).ownBlock ≠ some g) := ⟨⟨C5.out.1.1.later q6', C5.out.1.2.later q6'⟩, fun i hi => (C5.out.2.1 i hi).later q6', C5.out.2.2⟩
  clear q6 q6' s6 HE5 B5 C5
  go_wp2_with fail
  refine hK.out _ _ ⟨B6.out, HE6.out.2.1⟩ (fun hS => ?_)
  clear hK K
  refine wpAnyH_take (i := 5) (v := ?_) rfl (by kernel_rfl) (by kernel_rfl) (by kernel_rfl) (fun _ _ _ h => h) (Or.inl ⟨by kernel_rfl, ?_⟩) hS ?_
  rotate_left
  · intro wx hx
    obtain ⟨⟨⟨hx0, hx1⟩, _⟩, ⟨⟨hx2, hx3, hx4⟩, _⟩⟩ := hx
    go_simp
    try with_reducible rfl
  obtain ⟨y0, v0e, z0⟩ := C6.out.1.2.at (p := j * 3) (by omega)
  obtain ⟨y1, v1e, z1⟩ := C6.out.1.2.at (p := j * 3 + 1) (by omega)
  obtain ⟨y2, v2e, z2⟩ := C6.out.1.2.at (p := j * 3 + 2) (by omega)
  obtain ⟨l0, hl0⟩ : ∃ x, T.nc = x := ⟨_, rfl⟩
  obtain ⟨l1, hl1⟩ : ∃ x, T.nl = x := ⟨_, rfl⟩
  obtain ⟨l2, hl2⟩ : ∃ x, T.nw = x := ⟨_, rfl⟩
  rw [hl0, hl1, hl2] at T6 ⊢
  clear hl0 hl1 hl2
  refine wpAnyH_ready (rs := [6]) (by kernel_rfl) (by simp) ?_
  refine AllReadyH.cons rfl (fun K hK => ?_) AllReadyH.nil
  go_simp
  have W : Hid (Below (w.heap.size + 3) w6 (((w6.setCell ⟨g, j * 3, none⟩ (.slice d0 l0 e0)).setCell ⟨g, j * 3 + 1, none⟩ (.slice d1 l1 e1)).setCell ⟨g, j * 3 + 2, none⟩ (.slice d2 l2 e2)) ∧ Within g (g + 1) w6 (((w6.setCell ⟨g, j * 3, none⟩ (.slice d0 l0 e0)).setCell ⟨g, j * 3 + 1, none⟩ (.slice d1 l1 e1)).setCell ⟨g, j * 3 + 2, none⟩ (.slice d2 l2 e2))) := ⟨(((Below.refl _ _).setCell ZG.out.1 _).setCell ZG.out.1 _).setCell ZG.out.1 _, ⟨rfl, rfl, rfl, by simp [World.setCell], fun q _ ho => (Below.heap_setCell _ _ _ q (by show q ≠ g; omega)).trans ((Below.heap_setCell _ _ _ q (by show q ≠ g; omega)).trans (Below.heap_setCell _ _ _ q (by show q ≠ g; omega)))⟩⟩
  have F7 : Hid (FillS (((w6.setCell ⟨g, j * 3, none⟩ (.slice d0 l0 e0)).setCell ⟨g, j * 3 + 1, none⟩ (.slice d1 l1 e1)).setCell ⟨g, j * 3 + 2, none⟩ (.slice d2 l2 e2)) g n n (putU U j (.slice d0 l0 e0) (.slice d1 l1 e1) (.slice d2 l2 e2))) := C6.out.1.2.set hj _ _ _
  refine hK.out _ _ ⟨B6.out.kept (W.out.2.block b8 B6.out.lt (Or.inr (by have := ZG.out; omega))), HE6.out.2.1.within W.out.2 (Or.inl (by have := ZG.out; omega))⟩ (fun hS => ?_)
  clear hK K
  refine wpAnyH_done (by kernel_rfl) ?_ _
  clear hS v0e v1e v2e z0 z1 z2
  go_simp
  generalize ((w6.setCell ⟨g, j * 3, none⟩ (.slice d0 l0 e0)).setCell ⟨g, j * 3 + 1, none⟩ (.slice d1 l1 e1)).setCell ⟨g, j * 3 + 2, none⟩ (.slice d2 l2 e2) = w7 at W F7 ⊢
  have HE7 : Hid (CallP w (.slice a0 nr c0) (.slice a1 n c1) (.slice i0 m0 k0) (.slice i1 m1 k1) (.slice i2 m2 k2) w7) := HE6.out.kept W.out.1
  have B7 : Hid (Blk2 w7 b8 (.slice xa nr xc) (.slice (some ⟨g, 0, none⟩) n cq)) := B6.out.kept (W.out.2.block b8 B6.out.lt (Or.inr (by have := ZG.out; omega)))
  have G7 : Hid (Grs w7 (w.heap.size + 3) nr F n (putT S j T) (putU U j (.slice d0 l0 e0) (.slice d1 l1 e1) (.slice d2 l2 e2)) (.slice xa nr xc) (.slice (some ⟨g, 0, none⟩) n cq)) := by
    refine ⟨C6.out.1.1.within W.out.2 (fun hp q hq => ?_), stos_put F7.out ZG.out.1 (fun i hi => (C6.out.2.1 i hi).within W.out.2 ((C6.out.2.2.1 i hi).mono (fun p hp => by omega))) ((T6.out.within W.out.2 (T6.out.ownIn.mono (fun p hp => Or.inr (by have := ZG.out; have := ZX.out; omega)))).mono (by have := ZB.out; have := ZX.out; omega))⟩
    have : q ≠ g := fun e => C6.out.2.2.2 (e ▸ hq)
    omega
  clear W F7 HE6 B6 C6 T6
  obtain ⟨⟨s0, s1⟩, _⟩ := B7.out
  go_wp2_with fail
  refine (l7Fault_any nr F n (putT S j T) _ _ _ b8 _ ⟨⟨s0, s1⟩, G7.out.mono (Nat.zero_le _)⟩ hr hn).mono ?_
  rw [HQ.out]
  rintro e w8 ⟨rfl, q8⟩
  have HE : Hid (CallP w (.slice a0 nr c0) (.slice a1 n c1) (.slice i0 m0 k0) (.slice i1 m1 k1) (.slice i2 m2 k2) w8) := HE7.out.later q8
  have B8 : Hid (Blk2 w8 b8 (.slice xa nr xc) (.slice (some ⟨g, 0, none⟩) n cq)) := B7.out.later q8
  have G8 : Hid (Grs w8 (w.heap.size + 3) nr F n (putT S j T) (putU U j (.slice d0 l0 e0) (.slice d1 l1 e1) (.slice d2 l2 e2)) (.slice xa nr xc) (.slice (some ⟨g, 0, none⟩) n cq)) := G7.out.later q8
  clear q8 HE7 B7 G7 s0 s1
  obtain ⟨⟨s0, s1⟩, _⟩ := B8.out
  obtain ⟨⟨r0, r1, r2⟩, f0, f1, f2⟩ := HE.out.2.2.1
  have d : (c == 0) = false := beq_eq_false_iff_ne.2 HC.out
  have d' : (c != 0) = true := bne_iff_ne.2 HC.out
  go_wp2_with fail
  refine (l7Bad_is c F' R _).mono ?_
  rintro e w4 ⟨xa, xc, ya, yc, U, z, rfl, _, q4⟩
  have HE4 : Hid (CallP w (.slice a0 nr c0) (.slice a1 n c1) (.slice i0 m0 k0) (.slice i1 m1 k1) (.slice i2 m2 k2) w4) := HE.out.later q4
  clear q4 r0 r1 r2 f0 f1 f2
  obtain ⟨⟨r0, r1, r2⟩, f0, f1, f2⟩ := HE4.out.2.2.1
  go_wp2
  exact bodyPost_ret (v := .agg #[.int .i64 c, .slice xa 0 xc, .slice ya 0 yc]) (by simp [results, Tryz.results9, go_sem, r0, r1, r2]) rfl ⟨xa, xc, ya, yc, _, rfl, grs_nil _ _ _ _ _ _ _, ((HE4.out.2.2.2.setCell (Nat.le_add_right _ 2) _).setCell (Nat.le_add_right _ 2) _).setCell (Nat.le_add_right _ 2) _⟩
set_option maxRecDepth 100000 in
set_option maxHeartbeats 16000000 in
theorem specPutStore_done (nr : Nat) (F : Nat → Int) (n : Nat) (S : Nat → Sto) (V : Nat → Nat → Value) (vr vs : Value) (j : Nat) (T : Sto) (t0 t1 t2 : Value) (B : Nat) (w : World) (h : Grs w B nr F n S V vr vs) (hs : St w B T t0 t1 t2) (hr : nr ≤ 9223372036854775807) (hn : n ≤ 9223372036854775807) (ht : T.nc ≤ 1048576 ∧ T.nl ≤ 1048576 ∧ T.nw ≤ 1048576) (hj : j < n) (hz : groupsF nr F n S = 0) (hc : groupsF nr F n (putT S j T) = 0) :
    Calls Tryz.prog 9 #[.agg #[vr, vs], .int .i64 (j : Int), .agg #[t0, t1, t2]] w (ResGw w 0 nr F n (putT S j T)) := by
  unfold ResGw
  have HTT : Hid (T.nc ≤ 1048576 ∧ T.nl ≤ 1048576 ∧ T.nw ≤ 1048576) := ht
  clear ht
  obtain ⟨a0, c0, a1, c1, rfl, rfl⟩ := h.form
  obtain ⟨i0, k0, i1, k1, i2, k2, rfl, rfl, rfl⟩ := hs.form
  have HG : Hid (Grs w B nr F n S V (.slice a0 nr c0) (.slice a1 n c1)) := h
  have HT : Hid (St w B T (.slice i0 T.nc k0) (.slice i1 T.nl k1) (.slice i2 T.nw k2)) := hs
  obtain ⟨m0, hm0⟩ : ∃ x, T.nc = x := ⟨_, rfl⟩
  obtain ⟨m1, hm1⟩ : ∃ x, T.nl = x := ⟨_, rfl⟩
  obtain ⟨m2, hm2⟩ : ∃ x, T.nw = x := ⟨_, rfl⟩
  rw [hm0, hm1, hm2] at HT ⊢
  clear hm0 hm1 hm2
  have HE : Hid (CallP w (.slice a0 nr c0) (.slice a1 n c1) (.slice i0 m0 k0) (.slice i1 m1 k1) (.slice i2 m2 k2) (((w.alloc (.cells #[.slice a0 nr c0, .slice a1 n c1] 36)).alloc (.cells #[.slice i0 m0 k0, .slice i1 m1 k1, .slice i2 m2 k2] 45)).alloc (.cells #[.int .i64 0, .slice none 0 0, .slice none 0 0] 38))) := CallP.new w _ _ _ _ _ _ _ _
  clear h hs
  obtain ⟨f, hf⟩ : ∃ f, groupsF nr F n S = f := ⟨_, rfl⟩
  have HF : Hid (groupsF nr F n S = f) := hf
  obtain ⟨⟨p0, p1⟩, _⟩ := HE.out.1
  rw [hf] at hz
  subst hz
  have Z := groupsF_zero HF.out
  have N6 : Hid ((n ≤ 6 ∧ n = nr) ∧ ∀ i, i < n → (S i).nc ≤ 1048576 ∧ (S i).nl ≤ 1048576 ∧ (S i).nw ≤ 1048576) := ⟨⟨by have := Z.1.n6; have := Z.2.1; omega, Z.2.1⟩, fun i hi => by have := (storeF_zero (Z.2.2.1 i hi).1).1; omega⟩
  have HQ : Hid (groupsF nr F n (putT S j T) = 0) := hc
  have LI : Hid (decide ((0 : Int) ≤ (j : Int) ∧ (j : Int) ≤ (n : Int) - 1) = true) := decide_eq_true (by omega)
  clear Z HF hc
  go_enter Tryz.func9, Tryz.ntmps9
  go_wp2_with fail
  refine (l7Fault_any nr F n S V _ _ w.heap.size _ ⟨⟨p0, p1⟩, (HG.out.later HE.out.2.2.2).mono (Nat.zero_le _)⟩ hr hn).mono ?_
  rw [hf]
  rintro e w1 ⟨rfl, q1⟩
  have HE : Hid (CallP w (.slice a0 nr c0) (.slice a1 n c1) (.slice i0 m0 k0) (.slice i1 m1 k1) (.slice i2 m2 k2) w1) := HE.out.later q1
  clear q1 p0 p1 hf
  obtain ⟨⟨p0, p1⟩, _⟩ := HE.out.1
  obtain ⟨⟨r0, r1, r2⟩, f0, f1, f2⟩ := HE.out.2.2.1
  go_wp2_with fail
  refine (l1In_is _ _ _ true LI.out _).mono ?_
  rintro e w2 ⟨rfl, rfl⟩
  go_wp2_with fail
  refine (l7Copy_is nr F n S V _ _ B _ (HG.out.later HE.out.2.2.2) (by have := N6.out.1; omega) (by have := N6.out.1; omega) N6.out.2).mono ?_
  rintro e w4 ⟨xr, vS, U, rfl, ⟨hR4, hV4, hS4, hP4⟩, q4⟩
  obtain ⟨xa, xc, rfl⟩ := hR4.form
  obtain ⟨g, cq, rfl⟩ : ∃ g cq, vS = .slice (some ⟨g, 0, none⟩) n cq := by
    rcases hV4.2 with ⟨_, q⟩ | ⟨g, cap, cur, rfl, _⟩
    · exact absurd q (by omega)
    · exact ⟨g, cap, rfl⟩
  have z1 := HE.out.sz
  have gb := hV4.block g rfl
  have HE5 : Hid (CallP w (.slice a0 nr c0) (.slice a1 n c1) (.slice i0 m0 k0) (.slice i1 m1 k1) (.slice i2 m2 k2) (w4.alloc (.cells #[.slice xa nr xc, .slice (some ⟨g, 0, none⟩) n cq] 36))) := (HE.out.later q4).later (below_alloc _ _)
  have B5 : Hid (Blk2 (w4.alloc (.cells #[.slice xa nr xc, .slice (some ⟨g, 0, none⟩) n cq] 36)) w4.heap.size (.slice xa nr xc) (.slice (some ⟨g, 0, none⟩) n cq)) := Blk2.new _ _ _ _
  have C5 : Hid ((Row (w4.alloc (.cells #[.slice xa nr xc, .slice (some ⟨g, 0, none⟩) n cq] 36)) (w.heap.size + 3) 3 nr F (.slice xa nr xc) ∧ FillS (w4.alloc (.cells #[.slice xa nr xc, .slice (some ⟨g, 0, none⟩) n cq] 36)) g n n U) ∧ (∀ i, i < n → St (w4.alloc (.cells #[.slice xa nr xc, .slice (some ⟨g, 0, none⟩) n cq] 36)) (w.heap.size + 3) (S i) (U i 0) (U i 1) (U i 2)) ∧ Spare n S U g ∧ (Value.slice xa nr xc).ownBlock ≠ some g) := ⟨⟨(hR4.mono z1).alloc _, hV4.fill.later (below_alloc _ _)⟩, fun i hi => ((hS4 i hi).mono z1).alloc _, (hP4 g rfl).1, (hP4 g rfl).2⟩
  have ZG : Hid (w.heap.size + 3 ≤ g ∧ g < w4.heap.size) := ⟨Nat.le_trans z1 gb.1, gb.2⟩
  have ZB : Hid (w.heap.size + 3 ≤ w4.heap.size) := by have := gb.2; have := gb.1; unfold Hid; omega
  clear q4 hR4 hV4 hS4 hP4 z1 gb HE p0 p1 r0 r1 r2 f0 f1 f2
  go_upto_region 7 with fail
  generalize w4.alloc (.cells #[.slice xa nr xc, .slice (some ⟨g, 0, none⟩) n cq] 36) = w5 at HE5 B5 C5 ⊢
  have ZX : Hid (w4.heap.size < w5.heap.size) := B5.out.lt
  generalize hb8 : w4.heap.size = b8 at B5 ZG ZB ZX ⊢
  clear hb8
  refine wp_region_held_drew (S := PutE w (.slice i0 m0 k0) (.slice i1 m1 k1) (.slice i2 m2 k2) b8 (.slice xa nr xc) (.slice (some ⟨g, 0, none⟩) n cq)) (by kernel_rfl) ⟨B5.out.kept rfl, HE5.out.2.1.kept rfl⟩ (fun hS => ?_)
  refine wpAnyH_take (i := 0) (v := ?_) rfl (by kernel_rfl) (by kernel_rfl) (by kernel_rfl) (fun _ _ _ h => h) (Or.inl ⟨by kernel_rfl, ?_⟩) hS ?_
  rotate_left
  · intro wx hx
    obtain ⟨⟨⟨hx0, hx1⟩, _⟩, ⟨⟨hx2, hx3, hx4⟩, _⟩⟩ := hx
    go_simp
    try with_reducible rfl
  refine wpAnyH_take (i := 1) (v := ?_) rfl (by kernel_rfl) (by kernel_rfl) (by kernel_rfl) (fun _ _ _ h => h) (Or.inl ⟨by kernel_rfl, ?_⟩) hS ?_
  rotate_left
  · intro wx hx
    obtain ⟨⟨⟨hx0, hx1⟩, _⟩, ⟨⟨hx2, hx3, hx4⟩, _⟩⟩ := hx
    go_simp
    try with_reducible rfl
  refine wpAnyH_take (i := 2) (v := ?_) rfl (by kernel_rfl) (by kernel_rfl) (by kernel_rfl) (fun _ _ _ h => h) (Or.inl ⟨by kernel_rfl, ?_⟩) hS ?_
  rotate_left
  · intro wx hx
    obtain ⟨⟨⟨hx0, hx1⟩, _⟩, ⟨⟨hx2, hx3, hx4⟩, _⟩⟩ := hx
    go_simp
    try with_reducible rfl
  refine wpAnyH_take (i := 3) (v := ?_) rfl (by kernel_rfl) (by kernel_rfl) (by kernel_rfl) (fun _ _ _ h => h) (Or.inl ⟨by kernel_rfl, ?_⟩) hS ?_
  rotate_left
  · intro wx hx
    obtain ⟨⟨⟨hx0, hx1⟩, _⟩, ⟨⟨hx2, hx3, hx4⟩, _⟩⟩ := hx
    go_simp
    try with_reducible rfl
  refine wpAnyH_ready (rs := [4]) (by kernel_rfl) (by simp) ?_
  refine AllReadyH.cons rfl (fun K hK => ?_) AllReadyH.nil
  go_simp
  go_wp2_with fail
  refine (l2Copy_is T _ _ _ B _ (HT.out.later HE5.out.2.2.2.drew) HTT.out).mono ?_
  rintro e w6 ⟨d0, e0, d1, e1, d2, e2, rfl, ⟨s6, _, _⟩, q6⟩
  have q6' : Below w5.heap.size w5 w6 := ⟨q6.os, q6.tape, q6.output, q6.size, q6.block⟩
  have z6 : Hid (w5.heap.size ≤ w6.heap.size) := q6'.size
  have T6 : Hid (St w6 w5.heap.size T (.slice d0 T.nc e0) (.slice d1 T.nl e1) (.slice d2 T.nw e2)) := s6
  have HE6 : Hid (CallP w (.slice a0 nr c0) (.slice a1 n c1) (.slice i0 m0 k0) (.slice i1 m1 k1) (.slice i2 m2 k2) w6) := HE5.out.later q6'
  have B6 : Hid (Blk2 w6 b8 (.slice xa nr xc) (.slice (some ⟨g, 0, none⟩) n cq)) := B5.out.later q6'
  have C6 : Hid ((Row w6 (w.heap.size + 3) 3 nr F (.slice xa nr xc) ∧ FillS w6 g n n U) ∧ (∀ i, i < n → St w6 (w.heap.size + 3) (S i) (U i 0) (U i 1) (U i 2)) ∧ Spare n S U g ∧ (Value.slice xa nr xc).ownBlock ≠ some g) := ⟨⟨C5.out.1.1.later q6', C5.out.1.2.later q6'⟩, fun i hi => (C5.out.2.1 i hi).later q6', C5.out.2.2⟩
  clear q6 q6' s6 HE5 B5 C5
  go_wp2_with fail
  refine hK.out _ _ ⟨B6.out, HE6.out.2.1⟩ (fun hS => ?_)
  clear hK K
  refine wpAnyH_take (i := 5) (v := ?_) rfl (by kernel_rfl) (by kernel_rfl) (by kernel_rfl) (fun _ _ _ h => h) (Or.inl ⟨by kernel_rfl, ?_⟩) hS ?_
  rotate_left
  · intro wx hx
    obtain ⟨⟨⟨hx0, hx1⟩, _⟩, ⟨⟨hx2, hx3, hx4⟩, _⟩⟩ := hx
    go_simp
    try with_reducible rfl
  obtain ⟨y0, v0e, z0⟩ := C6.out.1.2.at (p := j * 3) (by omega)
  obtain ⟨y1, v1e, z1⟩ := C6.out.1.2.at (p := j * 3 + 1) (by omega)
  obtain ⟨y2, v2e, z2⟩ := C6.out.1.2.at (p := j * 3 + 2) (by omega)
  obtain ⟨l0, hl0⟩ : ∃ x, T.nc = x := ⟨_, rfl⟩
  obtain ⟨l1, hl1⟩ : ∃ x, T.nl = x := ⟨_, rfl⟩
  obtain ⟨l2, hl2⟩ : ∃ x, T.nw = x := ⟨_, rfl⟩
  rw [hl0, hl1, hl2] at T6 ⊢
  clear hl0 hl1 hl2
  refine wpAnyH_ready (rs := [6]) (by kernel_rfl) (by simp) ?_
  refine AllReadyH.cons rfl (fun K hK => ?_) AllReadyH.nil
  go_simp
  have W : Hid (Below (w.heap.size + 3) w6 (((w6.setCell ⟨g, j * 3, none⟩ (.slice d0 l0 e0)).setCell ⟨g, j * 3 + 1, none⟩ (.slice d1 l1 e1)).setCell ⟨g, j * 3 + 2, none⟩ (.slice d2 l2 e2)) ∧ Within g (g + 1) w6 (((w6.setCell ⟨g, j * 3, none⟩ (.slice d0 l0 e0)).setCell ⟨g, j * 3 + 1, none⟩ (.slice d1 l1 e1)).setCell ⟨g, j * 3 + 2, none⟩ (.slice d2 l2 e2))) := ⟨(((Below.refl _ _).setCell ZG.out.1 _).setCell ZG.out.1 _).setCell ZG.out.1 _, ⟨rfl, rfl, rfl, by simp [World.setCell], fun q _ ho => (Below.heap_setCell _ _ _ q (by show q ≠ g; omega)).trans ((Below.heap_setCell _ _ _ q (by show q ≠ g; omega)).trans (Below.heap_setCell _ _ _ q (by show q ≠ g; omega)))⟩⟩
  have F7 : Hid (FillS (((w6.setCell ⟨g, j * 3, none⟩ (.slice d0 l0 e0)).setCell ⟨g, j * 3 + 1, none⟩ (.slice d1 l1 e1)).setCell ⟨g, j * 3 + 2, none⟩ (.slice d2 l2 e2)) g n n (putU U j (.slice d0 l0 e0) (.slice d1 l1 e1) (.slice d2 l2 e2))) := C6.out.1.2.set hj _ _ _
  refine hK.out _ _ ⟨B6.out.kept (W.out.2.block b8 B6.out.lt (Or.inr (by have := ZG.out; omega))), HE6.out.2.1.within W.out.2 (Or.inl (by have := ZG.out; omega))⟩ (fun hS => ?_)
  clear hK K
  refine wpAnyH_done (by kernel_rfl) ?_ _
  clear hS v0e v1e v2e z0 z1 z2
  go_simp
  generalize ((w6.setCell ⟨g, j * 3, none⟩ (.slice d0 l0 e0)).setCell ⟨g, j * 3 + 1, none⟩ (.slice d1 l1 e1)).setCell ⟨g, j * 3 + 2, none⟩ (.slice d2 l2 e2) = w7 at W F7 ⊢
  have HE7 : Hid (CallP w (.slice a0 nr c0) (.slice a1 n c1) (.slice i0 m0 k0) (.slice i1 m1 k1) (.slice i2 m2 k2) w7) := HE6.out.kept W.out.1
  have B7 : Hid (Blk2 w7 b8 (.slice xa nr xc) (.slice (some ⟨g, 0, none⟩) n cq)) := B6.out.kept (W.out.2.block b8 B6.out.lt (Or.inr (by have := ZG.out; omega)))
  have G7 : Hid (Grs w7 (w.heap.size + 3) nr F n (putT S j T) (putU U j (.slice d0 l0 e0) (.slice d1 l1 e1) (.slice d2 l2 e2)) (.slice xa nr xc) (.slice (some ⟨g, 0, none⟩) n cq)) := by
    refine ⟨C6.out.1.1.within W.out.2 (fun hp q hq => ?_), stos_put F7.out ZG.out.1 (fun i hi => (C6.out.2.1 i hi).within W.out.2 ((C6.out.2.2.1 i hi).mono (fun p hp => by omega))) ((T6.out.within W.out.2 (T6.out.ownIn.mono (fun p hp => Or.inr (by have := ZG.out; have := ZX.out; omega)))).mono (by have := ZB.out; have := ZX.out; omega))⟩
    have : q ≠ g := fun e => C6.out.2.2.2 (e ▸ hq)
    omega
  clear W F7 HE6 B6 C6 T6
  obtain ⟨⟨s0, s1⟩, _⟩ := B7.out
  go_wp2_with fail
  refine (l7Fault_any nr F n (putT S j T) _ _ _ b8 _ ⟨⟨s0, s1⟩, G7.out.mono (Nat.zero_le _)⟩ hr hn).mono ?_
  rw [HQ.out]
  rintro e w8 ⟨rfl, q8⟩
  have HE : Hid (CallP w (.slice a0 nr c0) (.slice a1 n c1) (.slice i0 m0 k0) (.slice i1 m1 k1) (.slice i2 m2 k2) w8) := HE7.out.later q8
  have B8 : Hid (Blk2 w8 b8 (.slice xa nr xc) (.slice (some ⟨g, 0, none⟩) n cq)) := B7.out.later q8
  have G8 : Hid (Grs w8 (w.heap.size + 3) nr F n (putT S j T) (putU U j (.slice d0 l0 e0) (.slice d1 l1 e1) (.slice d2 l2 e2)) (.slice xa nr xc) (.slice (some ⟨g, 0, none⟩) n cq)) := G7.out.later q8
  clear q8 HE7 B7 G7 s0 s1
  obtain ⟨⟨s0, s1⟩, _⟩ := B8.out
  obtain ⟨⟨r0, r1, r2⟩, f0, f1, f2⟩ := HE.out.2.2.1
  go_wp2
  exact bodyPost_ret (v := .agg #[.int .i64 0, .slice xa nr xc, .slice (some ⟨g, 0, none⟩) n cq]) (by simp [results, Tryz.results9, go_sem, r0, r1, r2]) rfl ⟨xa, xc, _, cq, _, rfl, (G8.out.set3 (by omega) _ _ _).mono (Nat.zero_le _), ((HE.out.2.2.2.setCell (Nat.le_add_right _ 2) _).setCell (Nat.le_add_right _ 2) _).setCell (Nat.le_add_right _ 2) _⟩
end
end Go.Proofs.YtlojbhadodbohaaGreat
