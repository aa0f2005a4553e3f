/-
  Own text. What the program's groupsTold answers: the ranges and the stores that are worked on, in new memory.
-/
import Derived.Test.YtkaeolbnafhjaaaGreatGrpM
import Derived.Test.YtkaeolbnafhjaaaGreatGrpP
namespace Go.Proofs.YtkaeolbnafhjaaaGreat
open Go.RowKit Go.Maps

theorem ColsO.kept0 {x x' : World} {B b oo N : Nat} {m : Int → Int → Option Int} {nl : Nat} {l : Nat → Int} {nw : Nat} {k : Nat → Int} {g : Nat} {u1 u2 : Value} (h : ColsO x B b oo N m nl l nw k g u1 u2) (hb : Below x.heap.size x x') : ColsO x' B b oo N m nl l nw k g u1 u2 := h.later hb
theorem RSt.later {x x' : World} {B b : Nat} {fr to ep : Int} {N : Nat} {m : Int → Int → Option Int} {nl : Nat} {l : Nat → Int} {nw : Nat} {k : Nat → Int} {g : Nat} {u1 u2 : Value} (h : RSt x B b fr to ep N m nl l nw k g u1 u2) (hb : Below x.heap.size x x') : RSt x' B b fr to ep N m nl l nw k g u1 u2 := by
  have hl := h.2.1.2.2.1.lt
  exact ⟨⟨(hb.cell (p := ⟨b, 0, none⟩) hl).trans h.1.1, (hb.cell (p := ⟨b, 1, none⟩) hl).trans h.1.2.1, (hb.cell (p := ⟨b, 2, none⟩) hl).trans h.1.2.2⟩, h.2.1.later hb, h.2.2⟩
/-- The stores that are worked on: number i lies in block P i. -/
def Told (w : World) (B n : Nat) (F : Nat → Int) (S : Nat → Sto) (P : Nat → Nat) : Prop := ∀ i, i < n → ∃ N m g u1 u2, (N ≤ 400 ∧ (S i).nl ≤ 200 ∧ (S i).nw ≤ 200) ∧ MapRow m (S i).nc (S i).c ∧ RSt w B (P i) (F (i * 3)) (F (i * 3 + 1)) (F (i * 3 + 2)) N m (S i).nl (S i).l (S i).nw (S i).k g u1 u2
def PtrRow (w : World) (n : Nat) (pa : Option Addr) (P : Nat → Nat) : Prop := 0 < n → ∃ gp op, pa = some ⟨gp, op, none⟩ ∧ gp < w.heap.size ∧ ∀ i, i < n → w.cell? ⟨gp, op + i, none⟩ = some (.pointer (some ⟨P i, 0, none⟩))
theorem nums_three (F : Nat → Int) (k : Nat) : nums F ((k + 1) * 3) = nums F (k * 3) ++ [F (k * 3), F (k * 3 + 1), F (k * 3 + 2)] := by
  unfold nums
  rw [show (k + 1) * 3 = k * 3 + 1 + 1 + 1 by omega, List.range_succ, List.range_succ, List.range_succ]
  simp
theorem within_set (x : World) (b j : Nat) (u : Value) : Within b (b + 1) x (x.setCell ⟨b, j, none⟩ u) := ⟨rfl, rfl, rfl, by simp [World.setCell], fun q _ ho => Below.heap_setCell x ⟨b, j, none⟩ u q (by show q ≠ b; omega)⟩
theorem FineR.mono {w : World} {lo lo' tp nr : Nat} {F : Nat → Int} {n : Nat} {S : Nat → Sto} {ra : Option Addr} {rc : Nat} {sa : Option Addr} {U : Nat → Nat → Value} {z : Nat → Nat} (h : FineR w lo tp nr F n S ra rc sa U z) (hl : lo' ≤ lo) : FineR w lo' tp nr F n S ra rc sa U z :=
  ⟨⟨h.1.1.mono hl, h.1.2⟩, ⟨fun hn => by obtain ⟨g, x1, x2, x3⟩ := h.2.1.1 hn; exact ⟨g, x1, by omega, x3⟩, h.2.1.2⟩, ⟨fun i hi => Nat.le_trans hl (h.2.2.1.1 i hi), h.2.2.1.2⟩, h.2.2.2⟩
theorem FineR.up {w : World} {lo lo' tp nr : Nat} {F : Nat → Int} {n : Nat} {S : Nat → Sto} {ra : Option Addr} {rc : Nat} {sa : Option Addr} {U : Nat → Nat → Value} {z : Nat → Nat} (h : FineR w lo tp nr F n S ra rc sa U z) (hl : lo' ≤ lo) : FineR w lo' w.heap.size nr F n S ra rc sa U z := by
  have h' := h.mono hl
  refine ⟨h'.1, h'.2.1, ⟨h'.2.2.1.1, fun i hi => Nat.le_trans (h'.2.2.1.2.1 i hi) h'.2.2.1.2.2, Nat.le_refl _⟩, fun hn q e => ?_⟩
  obtain ⟨x1, x2, x3⟩ := h'.2.2.2 hn q e
  exact ⟨x1, x2, Nat.lt_of_lt_of_le x3 h'.2.2.1.2.2⟩
def RgS (pk : Nat) (fr to ep : Int) (x : World) : Prop := x.cell? ⟨pk, 0, none⟩ = some (.int .i64 fr) ∧ x.cell? ⟨pk, 1, none⟩ = some (.int .i64 to) ∧ x.cell? ⟨pk, 2, none⟩ = some (.int .i64 ep)
theorem RgS.below {w x : World} {pk : Nat} {fr to ep : Int} (h : RgS pk fr to ep w) (hb : Below w.heap.size w x) : RgS pk fr to ep x :=
  ⟨(hb.cell (p := ⟨pk, 0, none⟩) (World.block_lt_of_cell? w _ h.1)).trans h.1, (hb.cell (p := ⟨pk, 1, none⟩) (World.block_lt_of_cell? w _ h.2.1)).trans h.2.1, (hb.cell (p := ⟨pk, 2, none⟩) (World.block_lt_of_cell? w _ h.2.2)).trans h.2.2⟩
set_option maxRecDepth 100000 in
set_option maxHeartbeats 16000000 in
theorem groupsTold_is (n : Nat) (pa : Option Addr) (pc : Nat) (F : Nat → Int) (S : Nat → Sto) (P : Nat → Nat) (B : Nat) (w : World) (hp : PtrRow w n pa P) (ht : Told w B n F S P) (hn : n ≤ 12) :
    Calls Tryz.prog 44 #[.slice pa n pc] w (ResGr w 0 n F n S) := by
  have HP : Hid (PtrRow w n pa P) := hp
  have HT : Hid (Told w B n F S P) := ht
  clear hp ht
  go_enter Tryz.func44, Tryz.ntmps44
  go_wp2
  go_loopw [8] (fun i wr => ∃ (k : Nat) (U : Nat → Nat → Value) (z : Nat → Nat) (ra : Option Addr) (rc : Nat) (sa : Option Addr) (sc : Nat), k ≤ n ∧ i = .int .i64 k ∧ Hid (GT w wr k k F S U z (.slice ra k rc) (.slice sa k sc))) (fun i _ => n - (intOf i).toNat)
  case atStart =>
    refine ⟨0, fun _ _ => .bool true, fun _ => w.heap.size + 2, none, 0, none, 0, Nat.zero_le _, rfl, ⟨(below_alloc _ _).alloc (by simp) _, (Blk3.new w _ _ _ _).alloc _, ?_, by simp, OwnM.nil _ _ _ _, ⟨rfl, Or.inl ⟨rfl, rfl⟩⟩, fun i hi => absurd hi (Nat.not_lt_zero i), fun _ _ => Nat.le_refl _, by simp, (fun q e => by cases e), (fun q e => by cases e), (fun q e => by cases e)⟩⟩
    have := Blk2.new (w.alloc (.cells #[.int .i64 0, .slice none 0 0, .slice none 0 0] 33)) (.slice none 0 0) (.slice none 0 0) 31
    rwa [World.size_alloc] at this
  case round =>
    obtain ⟨k, U, z, ra, rc, sa, sc, hk, rfl, TT⟩ := hrel
    by_cases hlt : k < n
    · obtain ⟨gp, op, rfl, hgp, hpc⟩ := HP.out (by omega)
      have pk := (TT.out.below.cell (p := ⟨gp, op + k, none⟩) hgp).trans (hpc k hlt)
      obtain ⟨N, m, gm, u1, u2, hN, hM, hR⟩ := HT.out k hlt
      obtain ⟨fr, hfr⟩ : ∃ x, F (k * 3) = x := ⟨_, rfl⟩
      obtain ⟨to, hto⟩ : ∃ x, F (k * 3 + 1) = x := ⟨_, rfl⟩
      obtain ⟨ep, hep⟩ : ∃ x, F (k * 3 + 2) = x := ⟨_, rfl⟩
      rw [hfr, hto, hep] at hR
      have HF : Hid (F (k * 3) = fr ∧ F (k * 3 + 1) = to ∧ F (k * 3 + 2) = ep) := ⟨hfr, hto, hep⟩
      have RG : Hid (RgS (P k) fr to ep w) := hR.1
      have RS : Hid ((N ≤ 400 ∧ (S k).nl ≤ 200 ∧ (S k).nw ≤ 200) ∧ MapRow m (S k).nc (S k).c ∧ RSt w B (P k) fr to ep N m (S k).nl (S k).l (S k).nw (S k).k gm u1 u2) := ⟨hN, hM, hR⟩
      obtain ⟨i0, hi, hz0, hz1, hz2⟩ := info_parts info_Range
      obtain ⟨j0, gi, gz0, gz1, gz2⟩ := info_parts info_Store
      have F0 : wr.drew.cell? ⟨w.heap.size + 1, 0, none⟩ = some (.slice ra k rc) := TT.out.blk.1.1
      have F0d : wr.cell? ⟨w.heap.size + 1, 0, none⟩ = some (.slice ra k rc) := TT.out.blk.1.1
      have F1 : (wr.alloc (.cells #[.int .i64 fr, .int .i64 to, .int .i64 ep] 81)).drew.cell? ⟨w.heap.size + 1, 0, none⟩ = some (.slice ra k rc) := (TT.out.later (below_alloc _ _)).blk.1.1
      have F1d : (wr.alloc (.cells #[.int .i64 fr, .int .i64 to, .int .i64 ep] 81)).cell? ⟨w.heap.size + 1, 0, none⟩ = some (.slice ra k rc) := (TT.out.later (below_alloc _ _)).blk.1.1
      have TA : Hid (GT w (wr.alloc (.cells #[.int .i64 fr, .int .i64 to, .int .i64 ep] 81)).drew k k F S U z (.slice ra k rc) (.slice sa k sc)) := TT.out.later (below_alloc _ _).drew
      clear hN hM hR hfr hto hep hpc
      go_upto_region 5 with fail
      clear pk
      refine wp_region_held_drew (S := RgS (P k) fr to ep) (by kernel_rfl) (RG.out.below TT.out.below.drew) (fun hS => ?_)
      refine wpAnyH_take (i := 0) (v := ?_) rfl (by kernel_rfl) (by kernel_rfl) (by kernel_rfl) (fun _ _ _ h => h) (Or.inl ⟨by kernel_rfl, ?_⟩) hS ?_
      rotate_left
      · intro wx hx
        obtain ⟨hx0, hx1, hx2⟩ := hx
        go_simp
        try with_reducible rfl
      refine wpAnyH_take (i := 2) (v := ?_) rfl (by kernel_rfl) (by kernel_rfl) (by kernel_rfl) (fun _ _ _ h => h) (Or.inl ⟨by kernel_rfl, ?_⟩) hS ?_
      rotate_left
      · intro wx hx
        obtain ⟨hx0, hx1, hx2⟩ := hx
        go_simp
        try with_reducible rfl
      refine wpAnyH_take (i := 3) (v := ?_) rfl (by kernel_rfl) (by kernel_rfl) (by kernel_rfl) (fun _ _ _ h => h) (Or.inl ⟨by kernel_rfl, ?_⟩) hS ?_
      rotate_left
      · intro wx hx
        obtain ⟨hx0, hx1, hx2⟩ := hx
        go_simp
        try with_reducible rfl
      refine wpAnyH_take (i := 4) (v := ?_) rfl (by kernel_rfl) (by kernel_rfl) (by kernel_rfl) (fun _ _ _ h => h) (Or.inl ⟨by kernel_rfl, ?_⟩) hS ?_
      rotate_left
      · intro wx hx
        obtain ⟨hx0, hx1, hx2⟩ := hx
        go_simp
        try with_reducible rfl
      refine wpAnyH_take (i := 5) (v := ?_) rfl (by kernel_rfl) (by kernel_rfl) (by kernel_rfl) (fun _ _ _ h => h) (Or.inl ⟨by kernel_rfl, ?_⟩) hS ?_
      rotate_left
      · intro wx hx
        obtain ⟨hx0, hx1, hx2⟩ := hx
        go_simp
        try with_reducible rfl
      refine wpAnyH_ready (rs := [1, 6]) (by kernel_rfl) (by simp) ?_
      refine AllReadyH.cons rfl (fun K hK => ?_) (AllReadyH.cons rfl (fun K hK => ?_) AllReadyH.nil)
      · go_simp
        refine hK.out _ _ hS (fun hS => ?_)
        clear hK K
        refine wpAnyH_ready (rs := [6]) (by kernel_rfl) (by simp) ?_
        refine AllReadyH.cons rfl (fun K hK => ?_) AllReadyH.nil
        go_simp
        refine hK.out _ _ (RG.out.below TA.out.below) (fun hS => ?_)
        clear hK K
        refine wpAnyH_ready (rs := [7]) (by kernel_rfl) (by simp) ?_
        refine AllReadyH.cons rfl (fun K hK => ?_) AllReadyH.nil
        refine step_append_lies _ (by rfl) _ _ 28 (by rfl) (w.heap.size + 2) 81 i0 (.agg #[.int .i64 0, .int .i64 0, .int .i64 0]) 3 24 Tryz.underlying28 hi hz0 hz1 hz2 rfl (by omega) (.slice ra k rc) k _ (by rfl) TA.out.rr ⟨wr.heap.size, 0, none⟩ 1 1 [.int .i64 fr, .int .i64 to, .int .i64 ep] (by rfl) (by rfl) (World.news_of_block (cs := #[.int .i64 fr, .int .i64 to, .int .i64 ep]) (t := 81) (fr := (0, 0)) (heap_alloc_new wr _)) (by simp [Value.oneCell']) (by omega) (by unfold maxLen; omega) (by omega) TA.out.lo (wr.heap.size + 1) (by simp) ?_
        intro gg cap y OY GY AY LY
        have OR : OwnM y (w.heap.size + 2) 81 3 (.slice (some ⟨gg, 0, none⟩) (k + 1) cap) (k + 1) (nums F ((k + 1) * 3)) := by
          unfold OwnM
          rw [nums_three, HF.out.1, HF.out.2.1, HF.out.2.2, List.map_append]
          exact OY
        have T1 := TA.out.putR OR GY (by rcases AY with e | e; exact Or.inl e.symm; exact Or.inr (by rw [e]; simp [Value.ownBlock]))
        have hS' := RG.out.below (below_past TA.out.below TA.out.rr (by omega) GY)
        refine hK.out _ _ hS' (fun hS => ?_)
        clear hK K hS'
        refine wpAnyH_take (i := 8) (v := ?_) rfl (by kernel_rfl) (by kernel_rfl) (by kernel_rfl) (fun _ _ _ h => h) (Or.inl ⟨by kernel_rfl, ?_⟩) hS ?_
        rotate_left
        · intro wx hx
          obtain ⟨hx0, hx1, hx2⟩ := hx
          go_simp
          try with_reducible rfl
        obtain ⟨⟨t0, t1⟩, ft0, ft1⟩ := blk2_past TA.out.blk GY (fun e => by have := (TA.out.rr.block _ e).1; omega)
        have T1' : Hid (GT w (y.setCell ⟨w.heap.size + 1, 0, none⟩ (.slice (some ⟨gg, 0, none⟩) (k + 1) cap)) (k + 1) k F S U z (.slice (some ⟨gg, 0, none⟩) (k + 1) cap) (.slice sa k sc)) := T1
        clear T1
        refine wpAnyH_ready (rs := [9]) (by kernel_rfl) (by simp) ?_
        refine AllReadyH.cons rfl (fun K hK => ?_) AllReadyH.nil
        go_simp
        refine hK.out _ _ (RG.out.below T1'.out.below) (fun hS => ?_)
        clear hK K
        refine wpAnyH_done (by kernel_rfl) ?_ _
        clear hS
        go_simp
        generalize y.setCell ⟨w.heap.size + 1, 0, none⟩ (.slice (some ⟨gg, 0, none⟩) (k + 1) cap) = x1 at T1' ⊢
        clear t0 t1 ft0 ft1 OY GY AY LY OR TA TT F0 F1 F1d F0d
        go_wp2_with fail
        have G0 : x1.drew.cell? ⟨w.heap.size + 1, 1, none⟩ = some (.slice sa k sc) := T1'.out.blk.1.2
        refine wp_region_held_drew (S := fun _ => True) (by kernel_rfl) trivial (fun hS => ?_)
        refine wpAnyH_take (i := 0) (v := ?_) rfl (by kernel_rfl) (by kernel_rfl) (by kernel_rfl) (fun _ _ _ h => h) (Or.inl ⟨by kernel_rfl, ?_⟩) hS ?_
        rotate_left
        · intro wx hx
          go_simp
          try with_reducible rfl
        refine wpAnyH_take (i := 2) (v := ?_) rfl (by kernel_rfl) (by kernel_rfl) (by kernel_rfl) (fun _ _ _ h => h) (Or.inl ⟨by kernel_rfl, ?_⟩) hS ?_
        rotate_left
        · intro wx hx
          go_simp
          try with_reducible rfl
        refine wpAnyH_take (i := 3) (v := ?_) rfl (by kernel_rfl) (by kernel_rfl) (by kernel_rfl) (fun _ _ _ h => h) (Or.inl ⟨by kernel_rfl, ?_⟩) hS ?_
        rotate_left
        · intro wx hx
          go_simp
          try with_reducible rfl
        refine wpAnyH_take (i := 4) (v := ?_) rfl (by kernel_rfl) (by kernel_rfl) (by kernel_rfl) (fun _ _ _ h => h) (Or.inl ⟨by kernel_rfl, ?_⟩) hS ?_
        rotate_left
        · intro wx hx
          go_simp
          try with_reducible rfl
        refine wpAnyH_ready (rs := [1, 5]) (by kernel_rfl) (by simp) ?_
        refine AllReadyH.cons rfl (fun K hK => ?_) (AllReadyH.cons rfl (fun K hK => ?_) AllReadyH.nil)
        · go_simp
          refine hK.out _ _ trivial (fun hS => ?_)
          clear hK K
          refine wpAnyH_ready (rs := [5]) (by kernel_rfl) (by simp) ?_
          refine AllReadyH.cons rfl (fun K hK => ?_) AllReadyH.nil
          go_simp
          go_wp2_with fail
          refine (store_isO _ (P k) 3 _ _ _ _ _ _ gm u1 u2 _ (((RS.out.2.2.later T1'.out.below).2.1).later (below_dr (Below.refl _ _) 1)) RS.out.1.2.1 RS.out.1.2.2 RS.out.1.1 (S k).nc (S k).c RS.out.2.1).mono ?_
          rintro e x2 ⟨d0, e0, d1, e1, d2, e2, rfl, ⟨s3, f3, a3⟩, q2⟩
          have q2' : Below x1.heap.size x1 x2 := ⟨q2.os, q2.tape, q2.output, q2.size, q2.block⟩
          have ZX : Hid (x1.heap.size ≤ x2.heap.size) := q2'.size
          have TB : Hid (GT w x2 (k + 1) k F S U z (.slice (some ⟨gg, 0, none⟩) (k + 1) cap) (.slice sa k sc)) := T1'.out.later q2'
          have SC : Hid ((St (x2.alloc (.cells #[.slice d0 (S k).nc e0, .slice d1 (S k).nl e1, .slice d2 (S k).nw e2] 39)) x1.heap.size (S k) (.slice d0 (S k).nc e0) (.slice d1 (S k).nl e1) (.slice d2 (S k).nw e2) ∧ FreeS (x2.alloc (.cells #[.slice d0 (S k).nc e0, .slice d1 (S k).nl e1, .slice d2 (S k).nw e2] 39)) (S k) (.slice d0 (S k).nc e0) (.slice d1 (S k).nl e1) (.slice d2 (S k).nw e2) ∧ ApartD (S k) (.slice d0 (S k).nc e0) (.slice d1 (S k).nl e1) (.slice d2 (S k).nw e2)) ∧ OwnIn (S k) (.slice d0 (S k).nc e0) (.slice d1 (S k).nl e1) (.slice d2 (S k).nw e2) (fun q => x1.heap.size ≤ q ∧ q < x2.heap.size)) := ⟨⟨s3.alloc _, f3.later s3 (below_alloc _ _), a3⟩, s3.ownIn⟩
          have TC : Hid (GT w (x2.alloc (.cells #[.slice d0 (S k).nc e0, .slice d1 (S k).nl e1, .slice d2 (S k).nw e2] 39)) (k + 1) k F S U z (.slice (some ⟨gg, 0, none⟩) (k + 1) cap) (.slice sa k sc)) := TB.out.later (below_alloc _ _)
          have G2 : x2.cell? ⟨w.heap.size + 1, 1, none⟩ = some (.slice sa k sc) := TB.out.blk.1.2
          have G3 : (x2.alloc (.cells #[.slice d0 (S k).nc e0, .slice d1 (S k).nl e1, .slice d2 (S k).nw e2] 39)).cell? ⟨w.heap.size + 1, 1, none⟩ = some (.slice sa k sc) := TC.out.blk.1.2
          have G3d : True := trivial
          clear s3 f3 a3 q2 q2' TB
          go_wp2_with fail
          refine hK.out _ _ trivial (fun hS => ?_)
          clear hK K
          refine wpAnyH_ready (rs := [6]) (by kernel_rfl) (by simp) ?_
          refine AllReadyH.cons rfl (fun K hK => ?_) AllReadyH.nil
          go_simp
          refine hK.out _ _ trivial (fun hS => ?_)
          clear hK K
          refine wpAnyH_ready (rs := [7]) (by kernel_rfl) (by simp) ?_
          refine AllReadyH.cons rfl (fun K hK => ?_) AllReadyH.nil
          refine step_append_lies _ (by rfl) _ _ 29 (by rfl) (w.heap.size + 2) 39 j0 (.agg #[.slice none 0 0, .slice none 0 0, .slice none 0 0]) 3 72 Tryz.underlying29 gi gz0 gz1 gz2 rfl (by omega) (.slice sa k sc) k _ (by rfl) TC.out.rs ⟨x2.heap.size, 0, none⟩ 1 1 [.slice d0 (S k).nc e0, .slice d1 (S k).nl e1, .slice d2 (S k).nw e2] (by rfl) (by rfl) (World.news_of_block (cs := #[.slice d0 (S k).nc e0, .slice d1 (S k).nl e1, .slice d2 (S k).nw e2]) (t := 39) (fr := (0, 0)) (heap_alloc_new x2 _)) (by simp [Value.oneCell']) (by omega) (by unfold maxLen; omega) (by omega) TC.out.lo (x2.heap.size + 1) (by simp) ?_
          intro hh cap' y OY GY AY LY
          have OS : OwnV y (w.heap.size + 2) (.slice (some ⟨hh, 0, none⟩) (k + 1) cap') (k + 1) (putU U k (.slice d0 (S k).nc e0) (.slice d1 (S k).nl e1) (.slice d2 (S k).nw e2)) := by
            unfold OwnV
            rw [listU_new]
            exact OY
          have T2 : Hid (GT w (y.setCell ⟨w.heap.size + 1, 1, none⟩ (.slice (some ⟨hh, 0, none⟩) (k + 1) cap')) (k + 1) (k + 1) F S (putU U k (.slice d0 (S k).nc e0) (.slice d1 (S k).nl e1) (.slice d2 (S k).nw e2)) (fun i => if i = k + 1 then x2.heap.size else z i) (.slice (some ⟨gg, 0, none⟩) (k + 1) cap) (.slice (some ⟨hh, 0, none⟩) (k + 1) cap')) := TC.out.putS (zz := x1.heap.size) (zt := x2.heap.size) SC.out.1 SC.out.2 ⟨T1'.out.zh, ZX.out, by simp⟩ (fun q e => (T1'.out.rr.block q e).2) (fun q e => (T1'.out.rs.block q e).2) OS GY (by rcases AY with e | e; exact Or.inl e.symm; exact Or.inr (by rw [e]; simp [Value.ownBlock]))
          refine hK.out _ _ trivial (fun hS => ?_)
          clear hK K
          refine wpAnyH_take (i := 8) (v := ?_) rfl (by kernel_rfl) (by kernel_rfl) (by kernel_rfl) (fun _ _ _ h => h) (Or.inl ⟨by kernel_rfl, ?_⟩) hS ?_
          rotate_left
          · intro wx hx
            go_simp
            try with_reducible rfl
          obtain ⟨⟨t0, t1⟩, ft0, ft1⟩ := blk2_past TC.out.blk GY (fun e => by have := (TC.out.rs.block _ e).1; omega)
          refine wpAnyH_ready (rs := [9]) (by kernel_rfl) (by simp) ?_
          refine AllReadyH.cons rfl (fun K hK => ?_) AllReadyH.nil
          go_simp
          refine hK.out _ _ trivial (fun hS => ?_)
          clear hK K
          refine wpAnyH_done (by kernel_rfl) ?_ _
          clear hS
          go_simp
          generalize y.setCell ⟨w.heap.size + 1, 1, none⟩ (.slice (some ⟨hh, 0, none⟩) (k + 1) cap') = x4 at T2 ⊢
          clear t0 t1 ft0 ft1 OY GY AY LY OS TC SC ZX T1' G0 G2 G3 G3d
          go_wp2
          go_roundw
          case rel => exact ⟨k + 1, putU U k (.slice d0 (S k).nc e0) (.slice d1 (S k).nl e1) (.slice d2 (S k).nw e2), fun i => if i = k + 1 then x2.heap.size else z i, some ⟨gg, 0, none⟩, cap, some ⟨hh, 0, none⟩, cap', by omega, by go_num, T2⟩
          case measure => simp [intOf]; omega
        · go_simp
          go_wp2_with fail
          refine (store_isO _ (P k) 3 _ _ _ _ _ _ gm u1 u2 _ (((RS.out.2.2.later T1'.out.below).2.1).later (below_dr (Below.refl _ _) 1)) RS.out.1.2.1 RS.out.1.2.2 RS.out.1.1 (S k).nc (S k).c RS.out.2.1).mono ?_
          rintro e x2 ⟨d0, e0, d1, e1, d2, e2, rfl, ⟨s3, f3, a3⟩, q2⟩
          have q2' : Below x1.heap.size x1 x2 := ⟨q2.os, q2.tape, q2.output, q2.size, q2.block⟩
          have ZX : Hid (x1.heap.size ≤ x2.heap.size) := q2'.size
          have TB : Hid (GT w x2 (k + 1) k F S U z (.slice (some ⟨gg, 0, none⟩) (k + 1) cap) (.slice sa k sc)) := T1'.out.later q2'
          have SC : Hid ((St (x2.alloc (.cells #[.slice d0 (S k).nc e0, .slice d1 (S k).nl e1, .slice d2 (S k).nw e2] 39)) x1.heap.size (S k) (.slice d0 (S k).nc e0) (.slice d1 (S k).nl e1) (.slice d2 (S k).nw e2) ∧ FreeS (x2.alloc (.cells #[.slice d0 (S k).nc e0, .slice d1 (S k).nl e1, .slice d2 (S k).nw e2] 39)) (S k) (.slice d0 (S k).nc e0) (.slice d1 (S k).nl e1) (.slice d2 (S k).nw e2) ∧ ApartD (S k) (.slice d0 (S k).nc e0) (.slice d1 (S k).nl e1) (.slice d2 (S k).nw e2)) ∧ OwnIn (S k) (.slice d0 (S k).nc e0) (.slice d1 (S k).nl e1) (.slice d2 (S k).nw e2) (fun q => x1.heap.size ≤ q ∧ q < x2.heap.size)) := ⟨⟨s3.alloc _, f3.later s3 (below_alloc _ _), a3⟩, s3.ownIn⟩
          have TC : Hid (GT w (x2.alloc (.cells #[.slice d0 (S k).nc e0, .slice d1 (S k).nl e1, .slice d2 (S k).nw e2] 39)) (k + 1) k F S U z (.slice (some ⟨gg, 0, none⟩) (k + 1) cap) (.slice sa k sc)) := TB.out.later (below_alloc _ _)
          have G2 : x2.cell? ⟨w.heap.size + 1, 1, none⟩ = some (.slice sa k sc) := TB.out.blk.1.2
          have G3 : (x2.alloc (.cells #[.slice d0 (S k).nc e0, .slice d1 (S k).nl e1, .slice d2 (S k).nw e2] 39)).cell? ⟨w.heap.size + 1, 1, none⟩ = some (.slice sa k sc) := TC.out.blk.1.2
          have G3d : True := trivial
          clear s3 f3 a3 q2 q2' TB
          go_wp2_with fail
          refine hK.out _ _ trivial (fun hS => ?_)
          clear hK K
          refine wpAnyH_ready (rs := [1, 6]) (by kernel_rfl) (by simp) ?_
          refine AllReadyH.cons rfl (fun K hK => ?_) (AllReadyH.cons rfl (fun K hK => ?_) AllReadyH.nil)
          · go_simp
            refine hK.out _ _ trivial (fun hS => ?_)
            clear hK K
            refine wpAnyH_ready (rs := [6]) (by kernel_rfl) (by simp) ?_
            refine AllReadyH.cons rfl (fun K hK => ?_) AllReadyH.nil
            go_simp
            refine hK.out _ _ trivial (fun hS => ?_)
            clear hK K
            refine wpAnyH_ready (rs := [7]) (by kernel_rfl) (by simp) ?_
            refine AllReadyH.cons rfl (fun K hK => ?_) AllReadyH.nil
            refine step_append_lies _ (by rfl) _ _ 29 (by rfl) (w.heap.size + 2) 39 j0 (.agg #[.slice none 0 0, .slice none 0 0, .slice none 0 0]) 3 72 Tryz.underlying29 gi gz0 gz1 gz2 rfl (by omega) (.slice sa k sc) k _ (by rfl) TC.out.rs ⟨x2.heap.size, 0, none⟩ 1 1 [.slice d0 (S k).nc e0, .slice d1 (S k).nl e1, .slice d2 (S k).nw e2] (by rfl) (by rfl) (World.news_of_block (cs := #[.slice d0 (S k).nc e0, .slice d1 (S k).nl e1, .slice d2 (S k).nw e2]) (t := 39) (fr := (0, 0)) (heap_alloc_new x2 _)) (by simp [Value.oneCell']) (by omega) (by unfold maxLen; omega) (by omega) TC.out.lo (x2.heap.size + 1) (by simp) ?_
            intro hh cap' y OY GY AY LY
            have OS : OwnV y (w.heap.size + 2) (.slice (some ⟨hh, 0, none⟩) (k + 1) cap') (k + 1) (putU U k (.slice d0 (S k).nc e0) (.slice d1 (S k).nl e1) (.slice d2 (S k).nw e2)) := by
              unfold OwnV
              rw [listU_new]
              exact OY
            have T2 : Hid (GT w (y.setCell ⟨w.heap.size + 1, 1, none⟩ (.slice (some ⟨hh, 0, none⟩) (k + 1) cap')) (k + 1) (k + 1) F S (putU U k (.slice d0 (S k).nc e0) (.slice d1 (S k).nl e1) (.slice d2 (S k).nw e2)) (fun i => if i = k + 1 then x2.heap.size else z i) (.slice (some ⟨gg, 0, none⟩) (k + 1) cap) (.slice (some ⟨hh, 0, none⟩) (k + 1) cap')) := TC.out.putS (zz := x1.heap.size) (zt := x2.heap.size) SC.out.1 SC.out.2 ⟨T1'.out.zh, ZX.out, by simp⟩ (fun q e => (T1'.out.rr.block q e).2) (fun q e => (T1'.out.rs.block q e).2) OS GY (by rcases AY with e | e; exact Or.inl e.symm; exact Or.inr (by rw [e]; simp [Value.ownBlock]))
            refine hK.out _ _ trivial (fun hS => ?_)
            clear hK K
            refine wpAnyH_take (i := 8) (v := ?_) rfl (by kernel_rfl) (by kernel_rfl) (by kernel_rfl) (fun _ _ _ h => h) (Or.inl ⟨by kernel_rfl, ?_⟩) hS ?_
            rotate_left
            · intro wx hx
              go_simp
              try with_reducible rfl
            obtain ⟨⟨t0, t1⟩, ft0, ft1⟩ := blk2_past TC.out.blk GY (fun e => by have := (TC.out.rs.block _ e).1; omega)
            refine wpAnyH_ready (rs := [9]) (by kernel_rfl) (by simp) ?_
            refine AllReadyH.cons rfl (fun K hK => ?_) AllReadyH.nil
            go_simp
            refine hK.out _ _ trivial (fun hS => ?_)
            clear hK K
            refine wpAnyH_done (by kernel_rfl) ?_ _
            clear hS
            go_simp
            generalize y.setCell ⟨w.heap.size + 1, 1, none⟩ (.slice (some ⟨hh, 0, none⟩) (k + 1) cap') = x4 at T2 ⊢
            clear t0 t1 ft0 ft1 OY GY AY LY OS TC SC ZX T1' G0 G2 G3 G3d
            go_wp2
            go_roundw
            case rel => exact ⟨k + 1, putU U k (.slice d0 (S k).nc e0) (.slice d1 (S k).nl e1) (.slice d2 (S k).nw e2), fun i => if i = k + 1 then x2.heap.size else z i, some ⟨gg, 0, none⟩, cap, some ⟨hh, 0, none⟩, cap', by omega, by go_num, T2⟩
            case measure => simp [intOf]; omega
          · go_simp
            refine hK.out _ _ trivial (fun hS => ?_)
            clear hK K
            refine wpAnyH_ready (rs := [1]) (by kernel_rfl) (by simp) ?_
            refine AllReadyH.cons rfl (fun K hK => ?_) AllReadyH.nil
            go_simp
            refine hK.out _ _ trivial (fun hS => ?_)
            clear hK K
            refine wpAnyH_ready (rs := [7]) (by kernel_rfl) (by simp) ?_
            refine AllReadyH.cons rfl (fun K hK => ?_) AllReadyH.nil
            refine step_append_lies _ (by rfl) _ _ 29 (by rfl) (w.heap.size + 2) 39 j0 (.agg #[.slice none 0 0, .slice none 0 0, .slice none 0 0]) 3 72 Tryz.underlying29 gi gz0 gz1 gz2 rfl (by omega) (.slice sa k sc) k _ (by rfl) TC.out.rs ⟨x2.heap.size, 0, none⟩ 1 1 [.slice d0 (S k).nc e0, .slice d1 (S k).nl e1, .slice d2 (S k).nw e2] (by rfl) (by rfl) (World.news_of_block (cs := #[.slice d0 (S k).nc e0, .slice d1 (S k).nl e1, .slice d2 (S k).nw e2]) (t := 39) (fr := (0, 0)) (heap_alloc_new x2 _)) (by simp [Value.oneCell']) (by omega) (by unfold maxLen; omega) (by omega) TC.out.lo (x2.heap.size + 1) (by simp) ?_
            intro hh cap' y OY GY AY LY
            have OS : OwnV y (w.heap.size + 2) (.slice (some ⟨hh, 0, none⟩) (k + 1) cap') (k + 1) (putU U k (.slice d0 (S k).nc e0) (.slice d1 (S k).nl e1) (.slice d2 (S k).nw e2)) := by
              unfold OwnV
              rw [listU_new]
              exact OY
            have T2 : Hid (GT w (y.setCell ⟨w.heap.size + 1, 1, none⟩ (.slice (some ⟨hh, 0, none⟩) (k + 1) cap')) (k + 1) (k + 1) F S (putU U k (.slice d0 (S k).nc e0) (.slice d1 (S k).nl e1) (.slice d2 (S k).nw e2)) (fun i => if i = k + 1 then x2.heap.size else z i) (.slice (some ⟨gg, 0, none⟩) (k + 1) cap) (.slice (some ⟨hh, 0, none⟩) (k + 1) cap')) := TC.out.putS (zz := x1.heap.size) (zt := x2.heap.size) SC.out.1 SC.out.2 ⟨T1'.out.zh, ZX.out, by simp⟩ (fun q e => (T1'.out.rr.block q e).2) (fun q e => (T1'.out.rs.block q e).2) OS GY (by rcases AY with e | e; exact Or.inl e.symm; exact Or.inr (by rw [e]; simp [Value.ownBlock]))
            refine hK.out _ _ trivial (fun hS => ?_)
            clear hK K
            refine wpAnyH_take (i := 8) (v := ?_) rfl (by kernel_rfl) (by kernel_rfl) (by kernel_rfl) (fun _ _ _ h => h) (Or.inl ⟨by kernel_rfl, ?_⟩) hS ?_
            rotate_left
            · intro wx hx
              go_simp
              try with_reducible rfl
            obtain ⟨⟨t0, t1⟩, ft0, ft1⟩ := blk2_past TC.out.blk GY (fun e => by have := (TC.out.rs.block _ e).1; omega)
            refine wpAnyH_ready (rs := [9]) (by kernel_rfl) (by simp) ?_
            refine AllReadyH.cons rfl (fun K hK => ?_) AllReadyH.nil
            go_simp
            refine hK.out _ _ trivial (fun hS => ?_)
            clear hK K
            refine wpAnyH_done (by kernel_rfl) ?_ _
            clear hS
            go_simp
            generalize y.setCell ⟨w.heap.size + 1, 1, none⟩ (.slice (some ⟨hh, 0, none⟩) (k + 1) cap') = x4 at T2 ⊢
            clear t0 t1 ft0 ft1 OY GY AY LY OS TC SC ZX T1' G0 G2 G3 G3d
            go_wp2
            go_roundw
            case rel => exact ⟨k + 1, putU U k (.slice d0 (S k).nc e0) (.slice d1 (S k).nl e1) (.slice d2 (S k).nw e2), fun i => if i = k + 1 then x2.heap.size else z i, some ⟨gg, 0, none⟩, cap, some ⟨hh, 0, none⟩, cap', by omega, by go_num, T2⟩
            case measure => simp [intOf]; omega
      · go_simp
        refine hK.out _ _ (RG.out.below TA.out.below) (fun hS => ?_)
        clear hK K
        refine wpAnyH_ready (rs := [1]) (by kernel_rfl) (by simp) ?_
        refine AllReadyH.cons rfl (fun K hK => ?_) AllReadyH.nil
        go_simp
        refine hK.out _ _ hS (fun hS => ?_)
        clear hK K
        refine wpAnyH_ready (rs := [7]) (by kernel_rfl) (by simp) ?_
        refine AllReadyH.cons rfl (fun K hK => ?_) AllReadyH.nil
        refine step_append_lies _ (by rfl) _ _ 28 (by rfl) (w.heap.size + 2) 81 i0 (.agg #[.int .i64 0, .int .i64 0, .int .i64 0]) 3 24 Tryz.underlying28 hi hz0 hz1 hz2 rfl (by omega) (.slice ra k rc) k _ (by rfl) TA.out.rr ⟨wr.heap.size, 0, none⟩ 1 1 [.int .i64 fr, .int .i64 to, .int .i64 ep] (by rfl) (by rfl) (World.news_of_block (cs := #[.int .i64 fr, .int .i64 to, .int .i64 ep]) (t := 81) (fr := (0, 0)) (heap_alloc_new wr _)) (by simp [Value.oneCell']) (by omega) (by unfold maxLen; omega) (by omega) TA.out.lo (wr.heap.size + 1) (by simp) ?_
        intro gg cap y OY GY AY LY
        have OR : OwnM y (w.heap.size + 2) 81 3 (.slice (some ⟨gg, 0, none⟩) (k + 1) cap) (k + 1) (nums F ((k + 1) * 3)) := by
          unfold OwnM
          rw [nums_three, HF.out.1, HF.out.2.1, HF.out.2.2, List.map_append]
          exact OY
        have T1 := TA.out.putR OR GY (by rcases AY with e | e; exact Or.inl e.symm; exact Or.inr (by rw [e]; simp [Value.ownBlock]))
        have hS' := RG.out.below (below_past TA.out.below TA.out.rr (by omega) GY)
        refine hK.out _ _ hS' (fun hS => ?_)
        clear hK K hS'
        refine wpAnyH_take (i := 8) (v := ?_) rfl (by kernel_rfl) (by kernel_rfl) (by kernel_rfl) (fun _ _ _ h => h) (Or.inl ⟨by kernel_rfl, ?_⟩) hS ?_
        rotate_left
        · intro wx hx
          obtain ⟨hx0, hx1, hx2⟩ := hx
          go_simp
          try with_reducible rfl
        obtain ⟨⟨t0, t1⟩, ft0, ft1⟩ := blk2_past TA.out.blk GY (fun e => by have := (TA.out.rr.block _ e).1; omega)
        have T1' : Hid (GT w (y.setCell ⟨w.heap.size + 1, 0, none⟩ (.slice (some ⟨gg, 0, none⟩) (k + 1) cap)) (k + 1) k F S U z (.slice (some ⟨gg, 0, none⟩) (k + 1) cap) (.slice sa k sc)) := T1
        clear T1
        refine wpAnyH_ready (rs := [9]) (by kernel_rfl) (by simp) ?_
        refine AllReadyH.cons rfl (fun K hK => ?_) AllReadyH.nil
        go_simp
        refine hK.out _ _ (RG.out.below T1'.out.below) (fun hS => ?_)
        clear hK K
        refine wpAnyH_done (by kernel_rfl) ?_ _
        clear hS
        go_simp
        generalize y.setCell ⟨w.heap.size + 1, 0, none⟩ (.slice (some ⟨gg, 0, none⟩) (k + 1) cap) = x1 at T1' ⊢
        clear t0 t1 ft0 ft1 OY GY AY LY OR TA TT F0 F1 F1d F0d
        go_wp2_with fail
        have G0 : x1.drew.cell? ⟨w.heap.size + 1, 1, none⟩ = some (.slice sa k sc) := T1'.out.blk.1.2
        refine wp_region_held_drew (S := fun _ => True) (by kernel_rfl) trivial (fun hS => ?_)
        refine wpAnyH_take (i := 0) (v := ?_) rfl (by kernel_rfl) (by kernel_rfl) (by kernel_rfl) (fun _ _ _ h => h) (Or.inl ⟨by kernel_rfl, ?_⟩) hS ?_
        rotate_left
        · intro wx hx
          go_simp
          try with_reducible rfl
        refine wpAnyH_take (i := 2) (v := ?_) rfl (by kernel_rfl) (by kernel_rfl) (by kernel_rfl) (fun _ _ _ h => h) (Or.inl ⟨by kernel_rfl, ?_⟩) hS ?_
        rotate_left
        · intro wx hx
          go_simp
          try with_reducible rfl
        refine wpAnyH_take (i := 3) (v := ?_) rfl (by kernel_rfl) (by kernel_rfl) (by kernel_rfl) (fun _ _ _ h => h) (Or.inl ⟨by kernel_rfl, ?_⟩) hS ?_
        rotate_left
        · intro wx hx
          go_simp
          try with_reducible rfl
        refine wpAnyH_take (i := 4) (v := ?_) rfl (by kernel_rfl) (by kernel_rfl) (by kernel_rfl) (fun _ _ _ h => h) (Or.inl ⟨by kernel_rfl, ?_⟩) hS ?_
        rotate_left
        · intro wx hx
          go_simp
          try with_reducible rfl
        refine wpAnyH_ready (rs := [1, 5]) (by kernel_rfl) (by simp) ?_
        refine AllReadyH.cons rfl (fun K hK => ?_) (AllReadyH.cons rfl (fun K hK => ?_) AllReadyH.nil)
        · go_simp
          refine hK.out _ _ trivial (fun hS => ?_)
          clear hK K
          refine wpAnyH_ready (rs := [5]) (by kernel_rfl) (by simp) ?_
          refine AllReadyH.cons rfl (fun K hK => ?_) AllReadyH.nil
          go_simp
          go_wp2_with fail
          refine (store_isO _ (P k) 3 _ _ _ _ _ _ gm u1 u2 _ (((RS.out.2.2.later T1'.out.below).2.1).later (below_dr (Below.refl _ _) 1)) RS.out.1.2.1 RS.out.1.2.2 RS.out.1.1 (S k).nc (S k).c RS.out.2.1).mono ?_
          rintro e x2 ⟨d0, e0, d1, e1, d2, e2, rfl, ⟨s3, f3, a3⟩, q2⟩
          have q2' : Below x1.heap.size x1 x2 := ⟨q2.os, q2.tape, q2.output, q2.size, q2.block⟩
          have ZX : Hid (x1.heap.size ≤ x2.heap.size) := q2'.size
          have TB : Hid (GT w x2 (k + 1) k F S U z (.slice (some ⟨gg, 0, none⟩) (k + 1) cap) (.slice sa k sc)) := T1'.out.later q2'
          have SC : Hid ((St (x2.alloc (.cells #[.slice d0 (S k).nc e0, .slice d1 (S k).nl e1, .slice d2 (S k).nw e2] 39)) x1.heap.size (S k) (.slice d0 (S k).nc e0) (.slice d1 (S k).nl e1) (.slice d2 (S k).nw e2) ∧ FreeS (x2.alloc (.cells #[.slice d0 (S k).nc e0, .slice d1 (S k).nl e1, .slice d2 (S k).nw e2] 39)) (S k) (.slice d0 (S k).nc e0) (.slice d1 (S k).nl e1) (.slice d2 (S k).nw e2) ∧ ApartD (S k) (.slice d0 (S k).nc e0) (.slice d1 (S k).nl e1) (.slice d2 (S k).nw e2)) ∧ OwnIn (S k) (.slice d0 (S k).nc e0) (.slice d1 (S k).nl e1) (.slice d2 (S k).nw e2) (fun q => x1.heap.size ≤ q ∧ q < x2.heap.size)) := ⟨⟨s3.alloc _, f3.later s3 (below_alloc _ _), a3⟩, s3.ownIn⟩
          have TC : Hid (GT w (x2.alloc (.cells #[.slice d0 (S k).nc e0, .slice d1 (S k).nl e1, .slice d2 (S k).nw e2] 39)) (k + 1) k F S U z (.slice (some ⟨gg, 0, none⟩) (k + 1) cap) (.slice sa k sc)) := TB.out.later (below_alloc _ _)
          have G2 : x2.cell? ⟨w.heap.size + 1, 1, none⟩ = some (.slice sa k sc) := TB.out.blk.1.2
          have G3 : (x2.alloc (.cells #[.slice d0 (S k).nc e0, .slice d1 (S k).nl e1, .slice d2 (S k).nw e2] 39)).cell? ⟨w.heap.size + 1, 1, none⟩ = some (.slice sa k sc) := TC.out.blk.1.2
          have G3d : True := trivial
          clear s3 f3 a3 q2 q2' TB
          go_wp2_with fail
          refine hK.out _ _ trivial (fun hS => ?_)
          clear hK K
          refine wpAnyH_ready (rs := [6]) (by kernel_rfl) (by simp) ?_
          refine AllReadyH.cons rfl (fun K hK => ?_) AllReadyH.nil
          go_simp
          refine hK.out _ _ trivial (fun hS => ?_)
          clear hK K
          refine wpAnyH_ready (rs := [7]) (by kernel_rfl) (by simp) ?_
          refine AllReadyH.cons rfl (fun K hK => ?_) AllReadyH.nil
          refine step_append_lies _ (by rfl) _ _ 29 (by rfl) (w.heap.size + 2) 39 j0 (.agg #[.slice none 0 0, .slice none 0 0, .slice none 0 0]) 3 72 Tryz.underlying29 gi gz0 gz1 gz2 rfl (by omega) (.slice sa k sc) k _ (by rfl) TC.out.rs ⟨x2.heap.size, 0, none⟩ 1 1 [.slice d0 (S k).nc e0, .slice d1 (S k).nl e1, .slice d2 (S k).nw e2] (by rfl) (by rfl) (World.news_of_block (cs := #[.slice d0 (S k).nc e0, .slice d1 (S k).nl e1, .slice d2 (S k).nw e2]) (t := 39) (fr := (0, 0)) (heap_alloc_new x2 _)) (by simp [Value.oneCell']) (by omega) (by unfold maxLen; omega) (by omega) TC.out.lo (x2.heap.size + 1) (by simp) ?_
          intro hh cap' y OY GY AY LY
          have OS : OwnV y (w.heap.size + 2) (.slice (some ⟨hh, 0, none⟩) (k + 1) cap') (k + 1) (putU U k (.slice d0 (S k).nc e0) (.slice d1 (S k).nl e1) (.slice d2 (S k).nw e2)) := by
            unfold OwnV
            rw [listU_new]
            exact OY
          have T2 : Hid (GT w (y.setCell ⟨w.heap.size + 1, 1, none⟩ (.slice (some ⟨hh, 0, none⟩) (k + 1) cap')) (k + 1) (k + 1) F S (putU U k (.slice d0 (S k).nc e0) (.slice d1 (S k).nl e1) (.slice d2 (S k).nw e2)) (fun i => if i = k + 1 then x2.heap.size else z i) (.slice (some ⟨gg, 0, none⟩) (k + 1) cap) (.slice (some ⟨hh, 0, none⟩) (k + 1) cap')) := TC.out.putS (zz := x1.heap.size) (zt := x2.heap.size) SC.out.1 SC.out.2 ⟨T1'.out.zh, ZX.out, by simp⟩ (fun q e => (T1'.out.rr.block q e).2) (fun q e => (T1'.out.rs.block q e).2) OS GY (by rcases AY with e | e; exact Or.inl e.symm; exact Or.inr (by rw [e]; simp [Value.ownBlock]))
          refine hK.out _ _ trivial (fun hS => ?_)
          clear hK K
          refine wpAnyH_take (i := 8) (v := ?_) rfl (by kernel_rfl) (by kernel_rfl) (by kernel_rfl) (fun _ _ _ h => h) (Or.inl ⟨by kernel_rfl, ?_⟩) hS ?_
          rotate_left
          · intro wx hx
            go_simp
            try with_reducible rfl
          obtain ⟨⟨t0, t1⟩, ft0, ft1⟩ := blk2_past TC.out.blk GY (fun e => by have := (TC.out.rs.block _ e).1; omega)
          refine wpAnyH_ready (rs := [9]) (by kernel_rfl) (by simp) ?_
          refine AllReadyH.cons rfl (fun K hK => ?_) AllReadyH.nil
          go_simp
          refine hK.out _ _ trivial (fun hS => ?_)
          clear hK K
          refine wpAnyH_done (by kernel_rfl) ?_ _
          clear hS
          go_simp
          generalize y.setCell ⟨w.heap.size + 1, 1, none⟩ (.slice (some ⟨hh, 0, none⟩) (k + 1) cap') = x4 at T2 ⊢
          clear t0 t1 ft0 ft1 OY GY AY LY OS TC SC ZX T1' G0 G2 G3 G3d
          go_wp2
          go_roundw
          case rel => exact ⟨k + 1, putU U k (.slice d0 (S k).nc e0) (.slice d1 (S k).nl e1) (.slice d2 (S k).nw e2), fun i => if i = k + 1 then x2.heap.size else z i, some ⟨gg, 0, none⟩, cap, some ⟨hh, 0, none⟩, cap', by omega, by go_num, T2⟩
          case measure => simp [intOf]; omega
        · go_simp
          go_wp2_with fail
          refine (store_isO _ (P k) 3 _ _ _ _ _ _ gm u1 u2 _ (((RS.out.2.2.later T1'.out.below).2.1).later (below_dr (Below.refl _ _) 1)) RS.out.1.2.1 RS.out.1.2.2 RS.out.1.1 (S k).nc (S k).c RS.out.2.1).mono ?_
          rintro e x2 ⟨d0, e0, d1, e1, d2, e2, rfl, ⟨s3, f3, a3⟩, q2⟩
          have q2' : Below x1.heap.size x1 x2 := ⟨q2.os, q2.tape, q2.output, q2.size, q2.block⟩
          have ZX : Hid (x1.heap.size ≤ x2.heap.size) := q2'.size
          have TB : Hid (GT w x2 (k + 1) k F S U z (.slice (some ⟨gg, 0, none⟩) (k + 1) cap) (.slice sa k sc)) := T1'.out.later q2'
          have SC : Hid ((St (x2.alloc (.cells #[.slice d0 (S k).nc e0, .slice d1 (S k).nl e1, .slice d2 (S k).nw e2] 39)) x1.heap.size (S k) (.slice d0 (S k).nc e0) (.slice d1 (S k).nl e1) (.slice d2 (S k).nw e2) ∧ FreeS (x2.alloc (.cells #[.slice d0 (S k).nc e0, .slice d1 (S k).nl e1, .slice d2 (S k).nw e2] 39)) (S k) (.slice d0 (S k).nc e0) (.slice d1 (S k).nl e1) (.slice d2 (S k).nw e2) ∧ ApartD (S k) (.slice d0 (S k).nc e0) (.slice d1 (S k).nl e1) (.slice d2 (S k).nw e2)) ∧ OwnIn (S k) (.slice d0 (S k).nc e0) (.slice d1 (S k).nl e1) (.slice d2 (S k).nw e2) (fun q => x1.heap.size ≤ q ∧ q < x2.heap.size)) := ⟨⟨s3.alloc _, f3.later s3 (below_alloc _ _), a3⟩, s3.ownIn⟩
          have TC : Hid (GT w (x2.alloc (.cells #[.slice d0 (S k).nc e0, .slice d1 (S k).nl e1, .slice d2 (S k).nw e2] 39)) (k + 1) k F S U z (.slice (some ⟨gg, 0, none⟩) (k + 1) cap) (.slice sa k sc)) := TB.out.later (below_alloc _ _)
          have G2 : x2.cell? ⟨w.heap.size + 1, 1, none⟩ = some (.slice sa k sc) := TB.out.blk.1.2
          have G3 : (x2.alloc (.cells #[.slice d0 (S k).nc e0, .slice d1 (S k).nl e1, .slice d2 (S k).nw e2] 39)).cell? ⟨w.heap.size + 1, 1, none⟩ = some (.slice sa k sc) := TC.out.blk.1.2
          have G3d : True := trivial
          clear s3 f3 a3 q2 q2' TB
          go_wp2_with fail
          refine hK.out _ _ trivial (fun hS => ?_)
          clear hK K
          refine wpAnyH_ready (rs := [1, 6]) (by kernel_rfl) (by simp) ?_
          refine AllReadyH.cons rfl (fun K hK => ?_) (AllReadyH.cons rfl (fun K hK => ?_) AllReadyH.nil)
          · go_simp
            refine hK.out _ _ trivial (fun hS => ?_)
            clear hK K
            refine wpAnyH_ready (rs := [6]) (by kernel_rfl) (by simp) ?_
            refine AllReadyH.cons rfl (fun K hK => ?_) AllReadyH.nil
            go_simp
            refine hK.out _ _ trivial (fun hS => ?_)
            clear hK K
            refine wpAnyH_ready (rs := [7]) (by kernel_rfl) (by simp) ?_
            refine AllReadyH.cons rfl (fun K hK => ?_) AllReadyH.nil
            refine step_append_lies _ (by rfl) _ _ 29 (by rfl) (w.heap.size + 2) 39 j0 (.agg #[.slice none 0 0, .slice none 0 0, .slice none 0 0]) 3 72 Tryz.underlying29 gi gz0 gz1 gz2 rfl (by omega) (.slice sa k sc) k _ (by rfl) TC.out.rs ⟨x2.heap.size, 0, none⟩ 1 1 [.slice d0 (S k).nc e0, .slice d1 (S k).nl e1, .slice d2 (S k).nw e2] (by rfl) (by rfl) (World.news_of_block (cs := #[.slice d0 (S k).nc e0, .slice d1 (S k).nl e1, .slice d2 (S k).nw e2]) (t := 39) (fr := (0, 0)) (heap_alloc_new x2 _)) (by simp [Value.oneCell']) (by omega) (by unfold maxLen; omega) (by omega) TC.out.lo (x2.heap.size + 1) (by simp) ?_
            intro hh cap' y OY GY AY LY
            have OS : OwnV y (w.heap.size + 2) (.slice (some ⟨hh, 0, none⟩) (k + 1) cap') (k + 1) (putU U k (.slice d0 (S k).nc e0) (.slice d1 (S k).nl e1) (.slice d2 (S k).nw e2)) := by
              unfold OwnV
              rw [listU_new]
              exact OY
            have T2 : Hid (GT w (y.setCell ⟨w.heap.size + 1, 1, none⟩ (.slice (some ⟨hh, 0, none⟩) (k + 1) cap')) (k + 1) (k + 1) F S (putU U k (.slice d0 (S k).nc e0) (.slice d1 (S k).nl e1) (.slice d2 (S k).nw e2)) (fun i => if i = k + 1 then x2.heap.size else z i) (.slice (some ⟨gg, 0, none⟩) (k + 1) cap) (.slice (some ⟨hh, 0, none⟩) (k + 1) cap')) := TC.out.putS (zz := x1.heap.size) (zt := x2.heap.size) SC.out.1 SC.out.2 ⟨T1'.out.zh, ZX.out, by simp⟩ (fun q e => (T1'.out.rr.block q e).2) (fun q e => (T1'.out.rs.block q e).2) OS GY (by rcases AY with e | e; exact Or.inl e.symm; exact Or.inr (by rw [e]; simp [Value.ownBlock]))
            refine hK.out _ _ trivial (fun hS => ?_)
            clear hK K
            refine wpAnyH_take (i := 8) (v := ?_) rfl (by kernel_rfl) (by kernel_rfl) (by kernel_rfl) (fun _ _ _ h => h) (Or.inl ⟨by kernel_rfl, ?_⟩) hS ?_
            rotate_left
            · intro wx hx
              go_simp
              try with_reducible rfl
            obtain ⟨⟨t0, t1⟩, ft0, ft1⟩ := blk2_past TC.out.blk GY (fun e => by have := (TC.out.rs.block _ e).1; omega)
            refine wpAnyH_ready (rs := [9]) (by kernel_rfl) (by simp) ?_
            refine AllReadyH.cons rfl (fun K hK => ?_) AllReadyH.nil
            go_simp
            refine hK.out _ _ trivial (fun hS => ?_)
            clear hK K
            refine wpAnyH_done (by kernel_rfl) ?_ _
            clear hS
            go_simp
            generalize y.setCell ⟨w.heap.size + 1, 1, none⟩ (.slice (some ⟨hh, 0, none⟩) (k + 1) cap') = x4 at T2 ⊢
            clear t0 t1 ft0 ft1 OY GY AY LY OS TC SC ZX T1' G0 G2 G3 G3d
            go_wp2
            go_roundw
            case rel => exact ⟨k + 1, putU U k (.slice d0 (S k).nc e0) (.slice d1 (S k).nl e1) (.slice d2 (S k).nw e2), fun i => if i = k + 1 then x2.heap.size else z i, some ⟨gg, 0, none⟩, cap, some ⟨hh, 0, none⟩, cap', by omega, by go_num, T2⟩
            case measure => simp [intOf]; omega
          · go_simp
            refine hK.out _ _ trivial (fun hS => ?_)
            clear hK K
            refine wpAnyH_ready (rs := [1]) (by kernel_rfl) (by simp) ?_
            refine AllReadyH.cons rfl (fun K hK => ?_) AllReadyH.nil
            go_simp
            refine hK.out _ _ trivial (fun hS => ?_)
            clear hK K
            refine wpAnyH_ready (rs := [7]) (by kernel_rfl) (by simp) ?_
            refine AllReadyH.cons rfl (fun K hK => ?_) AllReadyH.nil
            refine step_append_lies _ (by rfl) _ _ 29 (by rfl) (w.heap.size + 2) 39 j0 (.agg #[.slice none 0 0, .slice none 0 0, .slice none 0 0]) 3 72 Tryz.underlying29 gi gz0 gz1 gz2 rfl (by omega) (.slice sa k sc) k _ (by rfl) TC.out.rs ⟨x2.heap.size, 0, none⟩ 1 1 [.slice d0 (S k).nc e0, .slice d1 (S k).nl e1, .slice d2 (S k).nw e2] (by rfl) (by rfl) (World.news_of_block (cs := #[.slice d0 (S k).nc e0, .slice d1 (S k).nl e1, .slice d2 (S k).nw e2]) (t := 39) (fr := (0, 0)) (heap_alloc_new x2 _)) (by simp [Value.oneCell']) (by omega) (by unfold maxLen; omega) (by omega) TC.out.lo (x2.heap.size + 1) (by simp) ?_
            intro hh cap' y OY GY AY LY
            have OS : OwnV y (w.heap.size + 2) (.slice (some ⟨hh, 0, none⟩) (k + 1) cap') (k + 1) (putU U k (.slice d0 (S k).nc e0) (.slice d1 (S k).nl e1) (.slice d2 (S k).nw e2)) := by
              unfold OwnV
              rw [listU_new]
              exact OY
            have T2 : Hid (GT w (y.setCell ⟨w.heap.size + 1, 1, none⟩ (.slice (some ⟨hh, 0, none⟩) (k + 1) cap')) (k + 1) (k + 1) F S (putU U k (.slice d0 (S k).nc e0) (.slice d1 (S k).nl e1) (.slice d2 (S k).nw e2)) (fun i => if i = k + 1 then x2.heap.size else z i) (.slice (some ⟨gg, 0, none⟩) (k + 1) cap) (.slice (some ⟨hh, 0, none⟩) (k + 1) cap')) := TC.out.putS (zz := x1.heap.size) (zt := x2.heap.size) SC.out.1 SC.out.2 ⟨T1'.out.zh, ZX.out, by simp⟩ (fun q e => (T1'.out.rr.block q e).2) (fun q e => (T1'.out.rs.block q e).2) OS GY (by rcases AY with e | e; exact Or.inl e.symm; exact Or.inr (by rw [e]; simp [Value.ownBlock]))
            refine hK.out _ _ trivial (fun hS => ?_)
            clear hK K
            refine wpAnyH_take (i := 8) (v := ?_) rfl (by kernel_rfl) (by kernel_rfl) (by kernel_rfl) (fun _ _ _ h => h) (Or.inl ⟨by kernel_rfl, ?_⟩) hS ?_
            rotate_left
            · intro wx hx
              go_simp
              try with_reducible rfl
            obtain ⟨⟨t0, t1⟩, ft0, ft1⟩ := blk2_past TC.out.blk GY (fun e => by have := (TC.out.rs.block _ e).1; omega)
            refine wpAnyH_ready (rs := [9]) (by kernel_rfl) (by simp) ?_
            refine AllReadyH.cons rfl (fun K hK => ?_) AllReadyH.nil
            go_simp
            refine hK.out _ _ trivial (fun hS => ?_)
            clear hK K
            refine wpAnyH_done (by kernel_rfl) ?_ _
            clear hS
            go_simp
            generalize y.setCell ⟨w.heap.size + 1, 1, none⟩ (.slice (some ⟨hh, 0, none⟩) (k + 1) cap') = x4 at T2 ⊢
            clear t0 t1 ft0 ft1 OY GY AY LY OS TC SC ZX T1' G0 G2 G3 G3d
            go_wp2
            go_roundw
            case rel => exact ⟨k + 1, putU U k (.slice d0 (S k).nc e0) (.slice d1 (S k).nl e1) (.slice d2 (S k).nw e2), fun i => if i = k + 1 then x2.heap.size else z i, some ⟨gg, 0, none⟩, cap, some ⟨hh, 0, none⟩, cap', by omega, by go_num, T2⟩
            case measure => simp [intOf]; omega
    · obtain rfl : k = n := by omega
      obtain ⟨⟨t0, t1⟩, _⟩ := TT.out.blk
      obtain ⟨⟨r0, r1, r2⟩, f0, f1, f2⟩ := TT.out.res
      go_wp2
      refine bodyPost_ret (v := .agg #[.int .i64 0, .slice ra k rc, .slice sa k sc]) (by simp [results, Tryz.results44, go_sem, r0, r1, r2]) rfl ⟨ra, rc, sa, sc, U, z, rfl, ?_, ((TT.out.below.setCell (Nat.le_refl _) _).setCell (Nat.le_refl _) _).setCell (Nat.le_refl _) _⟩
      have h1 := TT.out.fineR
      have h2 := ((h1.within (within_set _ w.heap.size 0 (.int .i64 0)) (by omega)).within (within_set _ w.heap.size 1 (.slice ra k rc)) (by omega)).within (within_set _ w.heap.size 2 (.slice sa k sc)) (by omega)
      exact h2.up (by omega)
end Go.Proofs.YtkaeolbnafhjaaaGreat
