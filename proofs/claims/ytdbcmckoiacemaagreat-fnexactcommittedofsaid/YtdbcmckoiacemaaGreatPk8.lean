/-
  Own text, merged of DonE, AcmB, TxsB, OrcB, WldE, WldF, TxsC, WldM, AcmC, DonF, TxsD.
-/
import Derived.Test.YtdbcmckoiacemaaGreatPk7
namespace Go.Proofs.YtdbcmckoiacemaaGreat
open Go.RowKit

/-- Whether a transaction is done, and when. -/
def DoneAt (n : Nat) (F : Nat → Int) (S : Nat → Sto) (t : Tx) (r : Option Int) : Prop := ∃ j, AtR n F (t.L 0) j ∧ ((∃ i, doneW (S j).k (S j).nw (t.L 0) t.s i ∧ r = some ((S j).k (i * 4 + 1))) ∨ ((∀ i, ¬ doneW (S j).k (S j).nw (t.L 0) t.s i) ∧ r = none))
/-- What of the first k was done. -/
def donesL (R : Nat → Option Int) : Nat → Prs
  | 0 => []
  | k + 1 => match R k with
    | some c => putD (donesL R k) (k, c)
    | none => donesL R k
theorem donesL_lt (R : Nat → Option Int) : ∀ (k : Nat) (e : Int × Int), e ∈ donesL R k → e.1 < k
  | 0, e, h => absurd h (by simp [donesL])
  | k + 1, e, h => by
    rw [donesL] at h
    split at h
    · rcases putD_mem h with rfl | q
      · show (k : Int) < _; omega
      · have := donesL_lt R k e q; omega
    · have := donesL_lt R k e h; omega
theorem donesL_len (R : Nat → Option Int) : ∀ k, (donesL R k).length ≤ k
  | 0 => by simp [donesL]
  | k + 1 => by
    have := donesL_len R k
    rw [donesL]
    split
    · rw [putD_length]; omega
    · omega
theorem donesL_rises (R : Nat → Option Int) : ∀ k, RisesD (donesL R k)
  | 0 => List.Pairwise.nil
  | k + 1 => by
    rw [donesL]
    split
    · exact putD_rises (donesL_rises R k) (fun e he => by have := donesL_lt R k e he; show e.1 ≠ (k : Int); omega)
    · exact donesL_rises R k
set_option maxRecDepth 100000 in
set_option maxHeartbeats 1000000 in
theorem filledD_nil (w : World) : Calls Tryz.prog 60 #[(.func (.func 61) #[] #[]), .slice none 0 0] w fun e w' => e = .returned (.pointer (some ⟨w.heap.size, 0, none⟩)) ∧ RisD w' w.heap.size [] ∧ Below w.heap.size w w' := by
  have HR : Hid (RisD (w.alloc (.cells #[.slice none 0 0, (.func (.func 61) #[] #[])] 138)) w.heap.size []) := ⟨_, Blk2.new w _ _ _, Own.nil _ _ _ _ _⟩
  go_enter Tryz.func60, Tryz.ntmps60
  go_wp2
  go_loopw [13] (fun i wr => i = .int .i64 0 ∧ wr = w.alloc (.cells #[.slice none 0 0, (.func (.func 61) #[] #[])] 138)) (fun _ _ => 0)
  case atStart => exact ⟨rfl, rfl⟩
  case round =>
    obtain ⟨rfl, rfl⟩ := hrel
    go_wp2
    go_ret
    exact ⟨rfl, HR.out, below_alloc _ _⟩
/-- What stands while dones looks: the work in block b, the list in block d. -/
structure DonE (x0 : World) (b : Nat) (nw nx bd : Int) (n : Nat) (F : Nat → Int) (S : Nat → Sto) (g : Nat) (P : Nat → Nat) (Bw : Nat) (nt : Nat) (T : Nat → Tx) (Y : Nat → Value) (v : Value) (x : World) : Prop where
  below : Below x0.heap.size x0 x
  kb : Blk5w x b (.int .i64 nw) (.int .i64 nx) (.int .i64 bd) (.slice (some ⟨g, 0, none⟩) n n) v
  work : Work x Bw n F S (some ⟨g, 0, none⟩) P
  txs : Txs x 0 nt T Y v
theorem DonE.later {x0 : World} {b : Nat} {nw nx bd : Int} {n : Nat} {F : Nat → Int} {S : Nat → Sto} {g : Nat} {P : Nat → Nat} {Bw nt : Nat} {T : Nat → Tx} {Y : Nat → Value} {v : Value} {x x' : World} (h : DonE x0 b nw nx bd n F S g P Bw nt T Y v x) (hb : Below x.heap.size x x') : DonE x0 b nw nx bd n F S g P Bw nt T Y v x' :=
  ⟨h.below.trans (hb.mono h.below.size), h.kb.later hb, h.work.later hb, h.txs.later hb⟩
theorem firstW_one {k : Nat → Int} {n : Nat} {key start : Int} {i j : Nat} (h : firstW k n key start i) (h' : firstW k n key start j) : i = j := by
  rcases Nat.lt_trichotomy i j with q | q | q
  · exact absurd h.2.1 (h'.2.2 i q)
  · exact q
  · exact absurd h'.2.1 (h.2.2 j q)
theorem doneT {k : Nat → Int} {nw : Nat} {key start : Int} {u : Value} {r : Option Int} (hT : Told (doneW k nw key start) k u) (hD : (∃ i, doneW k nw key start i ∧ r = some (k (i * 4 + 1))) ∨ ((∀ i, ¬ doneW k nw key start i) ∧ r = none)) :
    ∃ (a0 a1 a2 a3 : Int) (s : Bool), u = .tuple #[.agg #[.int .i64 a0, .int .i64 a1, .int .i64 a2, .int .i64 a3], .bool s] ∧ ((s = true ∧ r = some a1) ∨ (s = false ∧ r = none)) := by
  rcases hT with ⟨i, hi, rfl⟩ | ⟨hno, rfl⟩
  · rcases hD with ⟨j, hj, rfl⟩ | ⟨hno, _⟩
    · obtain rfl := firstW_one hi.1 hj.1
      exact ⟨_, _, _, _, true, rfl, Or.inl ⟨rfl, rfl⟩⟩
    · exact absurd hi (hno i)
  · rcases hD with ⟨j, hj, _⟩ | ⟨_, rfl⟩
    · exact absurd hj (hno j)
    · exact ⟨0, 0, 0, 0, false, rfl, Or.inr ⟨rfl, rfl⟩⟩
theorem sE_later {x0 : World} {c : Nat} {t : Tx} {y : Value} {L : Prs} {x x' : World} (h : (Below x0.heap.size x0 x) ∧ Blk6 x c (.int .i64 t.s) (.int .i64 t.c) (.int .i64 t.u) (.int .i64 t.st) (.int .i64 t.a) y ∧ RisD x x0.heap.size L) (hb : Below x.heap.size x x') : (Below x0.heap.size x0 x') ∧ Blk6 x' c (.int .i64 t.s) (.int .i64 t.c) (.int .i64 t.u) (.int .i64 t.st) (.int .i64 t.a) y ∧ RisD x' x0.heap.size L :=
  ⟨h.1.trans (hb.mono h.1.size), h.2.1.later hb, h.2.2.later hb⟩
theorem Blk4.putD {x : World} {b : Nat} {a0 a1 a2 a3 : Value} (h : Blk4 x b a0 a1 a2 a3) (c0 c1 c2 c3 : Value) : Blk4 ((((x.setCell ⟨b, 0, none⟩ c0).setCell ⟨b, 1, none⟩ c1).setCell ⟨b, 2, none⟩ c2).setCell ⟨b, 3, none⟩ c3) b c0 c1 c2 c3 := by
  obtain ⟨⟨h0, h1, h2, h3⟩, f0, f1, f2, f3⟩ := h
  refine ⟨⟨?_, ?_, ?_, ?_⟩, ?_, ?_, ?_, ?_⟩ <;> go_simp
set_option maxRecDepth 100000 in
set_option maxHeartbeats 8000000 in
theorem dones_is (x0 : World) (b : Nat) (nw nx bd : Int) (n : Nat) (F : Nat → Int) (S : Nat → Sto) (g : Nat) (P : Nat → Nat) (Bw nt : Nat) (T : Nat → Tx) (Y : Nat → Value) (v : Value) (R : Nat → Option Int) (h : DonE x0 b nw nx bd n F S g P Bw nt T Y v x0) (hR : ∀ i, i < nt → DoneAt n F S (T i) (R i)) (hn : n ≤ 12) (hnt : nt ≤ 16) (hit : ∀ i, i < nt → 1 ≤ (T i).m) :
    Calls Tryz.prog 28 #[.pointer (some ⟨b, 0, none⟩)] x0 fun e x' => ∃ ao cp, e = .returned (.slice ao (donesL R nt).length cp) ∧ Own x' x0.heap.size 110 2 (donesL R nt).length (rowL (donesL R nt)) (.slice ao (donesL R nt).length cp) ∧ Below x0.heap.size x0 x' := by
  obtain ⟨va, vc, rfl⟩ := h.txs.form
  have H0 : Hid (DonE x0 b nw nx bd n F S g P Bw nt T Y (.slice va nt vc) x0) := h
  have HRR : Hid ((∀ i, i < nt → DoneAt n F S (T i) (R i)) ∧ ∀ i, i < nt → 1 ≤ (T i).m) := ⟨hR, hit⟩
  clear h hR hit
  go_enter Tryz.func28, Tryz.ntmps28
  go_wp2_with fail
  refine (filledD_nil _).mono ?_
  rintro e w1 ⟨rfl, r1, q1⟩
  have H1 : Hid ((Below x0.heap.size x0 w1) ∧ RisD w1 x0.heap.size (donesL R 0)) := ⟨q1, r1⟩
  clear r1 q1
  obtain ⟨⟨p0, p1, p2, p3, p4⟩, _⟩ := H0.out.kb.later H1.out.1
  go_wp2
  clear p0 p1 p2 p3 p4
  go_loopw [15] (fun i wr => ∃ k : Nat, k ≤ nt ∧ i = .int .i64 k ∧ Hid ((Below x0.heap.size x0 wr) ∧ RisD wr x0.heap.size (donesL R k))) (fun i _ => nt - (intOf i).toNat)
  case atStart => exact ⟨0, Nat.zero_le _, rfl, H1⟩
  case round =>
    clear H1
    obtain ⟨k, hk, rfl, HB⟩ := hrel
    by_cases hlt : k < nt
    case neg =>
      obtain rfl : k = nt := by omega
      obtain ⟨rv, hb1, ho1⟩ := HB.out.2
      obtain ⟨ro, rc, rfl⟩ := ho1.form
      have HO : Hid (Own wr (x0.heap.size + 1) 110 2 (donesL R k).length (rowL (donesL R k)) (.slice ro (donesL R k).length rc)) := ho1
      obtain ⟨⟨z0, z1⟩, _, _⟩ := hb1
      clear ho1
      obtain ⟨LN, hLN⟩ : ∃ LN, (donesL R k).length = LN := ⟨_, rfl⟩
      have HLN : Hid ((donesL R k).length = LN) := hLN
      rw [hLN] at z0
      clear hLN
      go_wp2
      refine bodyPost_ret (v := .slice ro LN rc) (by simp [results, Tryz.results28, go_sem]) rfl ?_
      rw [← HLN.out]
      exact ⟨ro, rc, rfl, HO.out.mono (by omega), HB.out.1⟩
    obtain ⟨gx, ox, hax, _, hgx, ⟨c0, c1, c2, c3, c4, c5⟩, hrow, _⟩ := (H0.out.txs.later HB.out.1).at hlt
    subst hax
    obtain ⟨t, ht⟩ : ∃ t, T k = t := ⟨_, rfl⟩
    have hm1 := HRR.out.2 k hlt
    have hDk := HRR.out.1 k hlt
    rw [ht] at c0 c1 c2 c3 c4 hrow hm1 hDk
    obtain ⟨y, hy⟩ : ∃ y, Y k = y := ⟨_, rfl⟩
    rw [hy] at c5 hrow
    clear ht hy
    obtain ⟨yo, yc, rfl⟩ := hrow.form
    obtain ⟨gy, oy, hyo, _, hgy, k0, k1, k2⟩ := hrow.at3 (k := 0) (by omega)
    subst hyo
    simp only [Nat.zero_mul, Nat.add_zero] at k0 k1 k2
    obtain ⟨key, hkey⟩ : ∃ x, t.L 0 = x := ⟨_, rfl⟩
    rw [hkey] at k0
    obtain ⟨j, hj, hD⟩ := hDk
    rw [hkey] at hj hD
    have HJ : Hid (AtR n F key j) := hj
    have HD : Hid ((∃ i, doneW (S j).k (S j).nw key t.s i ∧ R k = some ((S j).k (i * 4 + 1))) ∨ ((∀ i, ¬ doneW (S j).k (S j).nw key t.s i) ∧ R k = none)) := hD
    have hS0 : (fun X : World => (Below x0.heap.size x0 X) ∧ Blk6 X wr.heap.size (.int .i64 t.s) (.int .i64 t.c) (.int .i64 t.u) (.int .i64 t.st) (.int .i64 t.a) (.slice (some ⟨gy, oy, none⟩) t.m yc) ∧ RisD X x0.heap.size (donesL R k)) (wr.alloc (.cells #[.int .i64 t.s, .int .i64 t.c, .int .i64 t.u, .int .i64 t.st, .int .i64 t.a, .slice (some ⟨gy, oy, none⟩) t.m yc] 94)).drew := ⟨(HB.out.1.alloc HB.out.1.size _).drew, Blk6.new wr _ _ _ _ _ _ _, HB.out.2.later (below_alloc _ _).drew⟩
    clear hrow hj hD hkey
    go_upto_region 6 with fail
    refine wp_region_held_drew (S := (fun X : World => (Below x0.heap.size x0 X) ∧ Blk6 X wr.heap.size (.int .i64 t.s) (.int .i64 t.c) (.int .i64 t.u) (.int .i64 t.st) (.int .i64 t.a) (.slice (some ⟨gy, oy, none⟩) t.m yc) ∧ RisD X x0.heap.size (donesL R k))) (by kernel_rfl) hS0 (fun hS => ?_)
    generalize (wr.alloc (.cells #[.int .i64 t.s, .int .i64 t.c, .int .i64 t.u, .int .i64 t.st, .int .i64 t.a, .slice (some ⟨gy, oy, none⟩) t.m yc] 94)).drew = wa at hS ⊢
    clear hS0 c0 c1 c2 c3 c4 c5 k0 k1 k2
    refine tkH 0 ?_ hS (fun wx hx => ?_) ?_; rotate_left
    · obtain ⟨⟨hx0, hx1, hx2, hx3, hx4⟩, _⟩ := H0.out.kb.later hx.1; obtain ⟨⟨hy0, hy1, hy2, hy3, hy4, hy5⟩, _⟩ := hx.2.1; go_simp; try with_reducible rfl
    refine tkH 1 ?_ hS (fun wx hx => ?_) ?_; rotate_left
    · obtain ⟨⟨hx0, hx1, hx2, hx3, hx4⟩, _⟩ := H0.out.kb.later hx.1; obtain ⟨⟨hy0, hy1, hy2, hy3, hy4, hy5⟩, _⟩ := hx.2.1; go_simp; try with_reducible rfl
    refine tkH 2 ?_ hS (fun wx hx => ?_) ?_; rotate_left
    · obtain ⟨⟨hx0, hx1, hx2, hx3, hx4⟩, _⟩ := H0.out.kb.later hx.1; obtain ⟨⟨hy0, hy1, hy2, hy3, hy4, hy5⟩, _⟩ := hx.2.1; go_simp; try with_reducible rfl
    try simp only [Act.put, List.getElem_toArray, List.getElem_cons_zero, List.getElem_cons_succ, List.setIfInBounds_toArray, List.set_cons_succ, List.set_cons_zero]
    refine tkH 3 ?_ hS (fun wx hx => ?_) ?_; rotate_left
    · obtain ⟨⟨hx0, hx1, hx2, hx3, hx4⟩, _⟩ := H0.out.kb.later hx.1; obtain ⟨⟨hy0, hy1, hy2, hy3, hy4, hy5⟩, _⟩ := hx.2.1; go_simp; try with_reducible rfl
    refine tkH 4 ?_ hS (fun wx hx => ?_) ?_; rotate_left
    · obtain ⟨⟨hx0, hx1, hx2, hx3, hx4⟩, _⟩ := H0.out.kb.later hx.1; obtain ⟨⟨hy0, hy1, hy2, hy3, hy4, hy5⟩, _⟩ := hx.2.1; go_simp; try with_reducible rfl
    refine tkH 8 ?_ hS (fun wx hx => ?_) ?_; rotate_left
    · obtain ⟨⟨hx0, hx1, hx2, hx3, hx4⟩, _⟩ := H0.out.kb.later hx.1; obtain ⟨⟨hy0, hy1, hy2, hy3, hy4, hy5⟩, _⟩ := hx.2.1; go_simp; try with_reducible rfl
    try simp only [Act.put, List.getElem_toArray, List.getElem_cons_zero, List.getElem_cons_succ, List.setIfInBounds_toArray, List.set_cons_succ, List.set_cons_zero]
    refine tkH 9 ?_ hS (fun wx hx => ?_) ?_; rotate_left
    · obtain ⟨⟨hx0, hx1, hx2, hx3, hx4⟩, _⟩ := H0.out.kb.later hx.1; obtain ⟨⟨hy0, hy1, hy2, hy3, hy4, hy5⟩, _⟩ := hx.2.1; go_simp; try with_reducible rfl
    refine tkH 10 ?_ hS (fun wx hx => ?_) ?_; rotate_left
    · obtain ⟨⟨hx0, hx1, hx2, hx3, hx4⟩, _⟩ := H0.out.kb.later hx.1; obtain ⟨⟨hy0, hy1, hy2, hy3, hy4, hy5⟩, _⟩ := hx.2.1; go_simp; try with_reducible rfl
    try simp only [Act.put, List.getElem_toArray, List.getElem_cons_zero, List.getElem_cons_succ, List.setIfInBounds_toArray, List.set_cons_succ, List.set_cons_zero]
    refine wpAnyH_ready (rs := [5, 15]) (by kernel_rfl) (by simp) ?_
    refine AllReadyH.cons rfl (fun K hK => ?_) (AllReadyH.cons rfl (fun K hK => ?_) AllReadyH.nil)
    focus
      go_simp
      go_wp2_with fail
      refine (storeOf_is key Bw n F S _ n P j _ (H0.out.work.later hS.1) HJ.out hn).mono ?_
      rintro e w5 ⟨rfl, q5⟩
      have hS5 := sE_later hS q5
      go_wp2_with fail
      refine hK.out _ _ hS5 (fun hS => ?_)
      clear hK K hS5
      refine tkH 6 ?_ hS (fun wx hx => ?_) ?_; rotate_left
      · obtain ⟨⟨hx0, hx1, hx2, hx3, hx4⟩, _⟩ := H0.out.kb.later hx.1; obtain ⟨⟨hy0, hy1, hy2, hy3, hy4, hy5⟩, _⟩ := hx.2.1; go_simp; try with_reducible rfl
      refine tkH 7 ?_ hS (fun wx hx => ?_) ?_; rotate_left
      · obtain ⟨⟨hx0, hx1, hx2, hx3, hx4⟩, _⟩ := H0.out.kb.later hx.1; obtain ⟨⟨hy0, hy1, hy2, hy3, hy4, hy5⟩, _⟩ := hx.2.1; go_simp; try with_reducible rfl
      try simp only [Act.put, List.getElem_toArray, List.getElem_cons_zero, List.getElem_cons_succ, List.setIfInBounds_toArray, List.set_cons_succ, List.set_cons_zero]
      refine wpAnyH_ready (rs := [11, 15]) (by kernel_rfl) (by simp) ?_
      refine AllReadyH.cons rfl (fun K hK => ?_) (AllReadyH.cons rfl (fun K hK => ?_) AllReadyH.nil)
      focus
        go_simp
        go_wp2_with fail
        obtain ⟨N, mm, gm, u1, u2, hNl, _, hRS⟩ := (H0.out.work.later hS.1).2 j HJ.out.1
        refine (doneOf_anyO _ (P j) 3 N mm _ _ _ _ gm u1 u2 key t.s _ hRS.2.1 hNl.2.2).mono ?_
        rintro e w6 ⟨u, rfl, hTold, q6⟩
        obtain ⟨a0, a1, a2, a3, sb, rfl, hsb⟩ := doneT hTold HD.out
        have HSB : Hid ((sb = true ∧ R k = some a1) ∨ (sb = false ∧ R k = none)) := hsb
        have hS6 := sE_later hS q6
        clear hTold hsb hRS hNl
        go_wp2_with fail
        refine hK.out _ _ hS6 (fun hS => ?_)
        clear hK K hS6 q6 q5
        refine tkH 12 ?_ hS (fun wx hx => ?_) ?_; rotate_left
        · obtain ⟨⟨hx0, hx1, hx2, hx3, hx4⟩, _⟩ := H0.out.kb.later hx.1; obtain ⟨⟨hy0, hy1, hy2, hy3, hy4, hy5⟩, _⟩ := hx.2.1; go_simp; try with_reducible rfl
        refine tkH 13 ?_ hS (fun wx hx => ?_) ?_; rotate_left
        · obtain ⟨⟨hx0, hx1, hx2, hx3, hx4⟩, _⟩ := H0.out.kb.later hx.1; obtain ⟨⟨hy0, hy1, hy2, hy3, hy4, hy5⟩, _⟩ := hx.2.1; go_simp; try with_reducible rfl
        refine tkH 14 ?_ hS (fun wx hx => ?_) ?_; rotate_left
        · obtain ⟨⟨hx0, hx1, hx2, hx3, hx4⟩, _⟩ := H0.out.kb.later hx.1; obtain ⟨⟨hy0, hy1, hy2, hy3, hy4, hy5⟩, _⟩ := hx.2.1; go_simp; try with_reducible rfl
        try simp only [Act.put, List.getElem_toArray, List.getElem_cons_zero, List.getElem_cons_succ, List.setIfInBounds_toArray, List.set_cons_succ, List.set_cons_zero]
        refine rdH 15 (fun K hK => ?_)
        go_simp
        have HQ : Hid (Blk4 (w6.alloc (.cells #[.int .i64 0, .int .i64 0, .int .i64 0, .int .i64 0] 102)) w6.heap.size (.int .i64 0) (.int .i64 0) (.int .i64 0) (.int .i64 0) ∧ Below w6.heap.size w6 (w6.alloc (.cells #[.int .i64 0, .int .i64 0, .int .i64 0, .int .i64 0] 102))) := ⟨Blk4.new _ _ _ _ _ _, below_alloc _ _⟩
        have HSA : Hid ((Below x0.heap.size x0 w6) ∧ Blk6 w6 wr.heap.size (.int .i64 t.s) (.int .i64 t.c) (.int .i64 t.u) (.int .i64 t.st) (.int .i64 t.a) (.slice (some ⟨gy, oy, none⟩) t.m yc) ∧ RisD w6 x0.heap.size (donesL R k)) := hS
        refine hK.out _ _ (sE_later hS (below_alloc _ _)) (fun hS => ?_)
        clear hK K
        refine rdH 16 (fun K hK => ?_)
        obtain ⟨⟨z0, z1, z2, z3⟩, zf⟩ := HQ.out.1
        have hqlt : w6.heap.size < (w6.alloc (.cells #[.int .i64 0, .int .i64 0, .int .i64 0, .int .i64 0] 102)).heap.size := HQ.out.1.lt
        obtain ⟨f0, f1, f2, f3⟩ := zf
        have HQ2 : Hid (Blk4 (w6.alloc (.cells #[.int .i64 a0, .int .i64 a1, .int .i64 a2, .int .i64 a3] 102)) w6.heap.size (.int .i64 a0) (.int .i64 a1) (.int .i64 a2) (.int .i64 a3) ∧ Below w6.heap.size w6 (w6.alloc (.cells #[.int .i64 a0, .int .i64 a1, .int .i64 a2, .int .i64 a3] 102))) := ⟨Blk4.new _ _ _ _ _ _, below_alloc _ _⟩
        go_simp
        refine hK.out _ _ (sE_later HSA.out HQ2.out.2) (fun hS => ?_)
        clear hK K z0 z1 z2 z3 f0 f1 f2 f3
        refine tkH 17 ?_ hS (fun wx hx => ?_) ?_; rotate_left
        · obtain ⟨⟨hx0, hx1, hx2, hx3, hx4⟩, _⟩ := H0.out.kb.later hx.1; obtain ⟨⟨hy0, hy1, hy2, hy3, hy4, hy5⟩, _⟩ := hx.2.1; go_simp; try with_reducible rfl
        refine wpAnyH_done (by kernel_rfl) ?_ _
        go_simp
        generalize (w6.alloc (.cells #[.int .i64 a0, .int .i64 a1, .int .i64 a2, .int .i64 a3] 102)) = wz at HQ2 hS ⊢
      rotate_left
      focus
        go_simp
        have HQ : Hid (Blk4 (w5.alloc (.cells #[.int .i64 0, .int .i64 0, .int .i64 0, .int .i64 0] 102)) w5.heap.size (.int .i64 0) (.int .i64 0) (.int .i64 0) (.int .i64 0) ∧ Below w5.heap.size w5 (w5.alloc (.cells #[.int .i64 0, .int .i64 0, .int .i64 0, .int .i64 0] 102))) := ⟨Blk4.new _ _ _ _ _ _, below_alloc _ _⟩
        have HSA : Hid ((Below x0.heap.size x0 w5) ∧ Blk6 w5 wr.heap.size (.int .i64 t.s) (.int .i64 t.c) (.int .i64 t.u) (.int .i64 t.st) (.int .i64 t.a) (.slice (some ⟨gy, oy, none⟩) t.m yc) ∧ RisD w5 x0.heap.size (donesL R k)) := hS
        refine hK.out _ _ (sE_later hS (below_alloc _ _)) (fun hS => ?_)
        clear hK K
        refine rdH 11 (fun K hK => ?_)
        go_simp
        go_wp2_with fail
        obtain ⟨N, mm, gm, u1, u2, hNl, _, hRS⟩ := (H0.out.work.later hS.1).2 j HJ.out.1
        refine (doneOf_anyO _ (P j) 3 N mm _ _ _ _ gm u1 u2 key t.s _ hRS.2.1 hNl.2.2).mono ?_
        rintro e w6 ⟨u, rfl, hTold, q6⟩
        obtain ⟨a0, a1, a2, a3, sb, rfl, hsb⟩ := doneT hTold HD.out
        have HSB : Hid ((sb = true ∧ R k = some a1) ∨ (sb = false ∧ R k = none)) := hsb
        have hS6 := sE_later hS q6
        clear hTold hsb hRS hNl
        have HQ : Hid (Blk4 w6 w5.heap.size (.int .i64 0) (.int .i64 0) (.int .i64 0) (.int .i64 0) ∧ Below w5.heap.size w5 w6) := ⟨HQ.out.1.later q6, HQ.out.2.trans (q6.mono HQ.out.2.size)⟩
        go_wp2_with fail
        refine hK.out _ _ hS6 (fun hS => ?_)
        clear hK K hS6 q6 q5
        refine tkH 12 ?_ hS (fun wx hx => ?_) ?_; rotate_left
        · obtain ⟨⟨hx0, hx1, hx2, hx3, hx4⟩, _⟩ := H0.out.kb.later hx.1; obtain ⟨⟨hy0, hy1, hy2, hy3, hy4, hy5⟩, _⟩ := hx.2.1; go_simp; try with_reducible rfl
        refine tkH 13 ?_ hS (fun wx hx => ?_) ?_; rotate_left
        · obtain ⟨⟨hx0, hx1, hx2, hx3, hx4⟩, _⟩ := H0.out.kb.later hx.1; obtain ⟨⟨hy0, hy1, hy2, hy3, hy4, hy5⟩, _⟩ := hx.2.1; go_simp; try with_reducible rfl
        refine tkH 14 ?_ hS (fun wx hx => ?_) ?_; rotate_left
        · obtain ⟨⟨hx0, hx1, hx2, hx3, hx4⟩, _⟩ := H0.out.kb.later hx.1; obtain ⟨⟨hy0, hy1, hy2, hy3, hy4, hy5⟩, _⟩ := hx.2.1; go_simp; try with_reducible rfl
        try simp only [Act.put, List.getElem_toArray, List.getElem_cons_zero, List.getElem_cons_succ, List.setIfInBounds_toArray, List.set_cons_succ, List.set_cons_zero]
        refine rdH 16 (fun K hK => ?_)
        obtain ⟨⟨z0, z1, z2, z3⟩, zf⟩ := HQ.out.1
        have hqlt : w5.heap.size < w6.heap.size := HQ.out.1.lt
        obtain ⟨f0, f1, f2, f3⟩ := zf
        have HQ2 : Hid (Blk4 ((((w6.setCell ⟨w5.heap.size, 0, none⟩ (.int .i64 a0)).setCell ⟨w5.heap.size, 1, none⟩ (.int .i64 a1)).setCell ⟨w5.heap.size, 2, none⟩ (.int .i64 a2)).setCell ⟨w5.heap.size, 3, none⟩ (.int .i64 a3)) w5.heap.size (.int .i64 a0) (.int .i64 a1) (.int .i64 a2) (.int .i64 a3) ∧ Below w5.heap.size w5 ((((w6.setCell ⟨w5.heap.size, 0, none⟩ (.int .i64 a0)).setCell ⟨w5.heap.size, 1, none⟩ (.int .i64 a1)).setCell ⟨w5.heap.size, 2, none⟩ (.int .i64 a2)).setCell ⟨w5.heap.size, 3, none⟩ (.int .i64 a3))) := ⟨Blk4.putD HQ.out.1 _ _ _ _, (((HQ.out.2.setCell (Nat.le_refl _) _).setCell (Nat.le_refl _) _).setCell (Nat.le_refl _) _).setCell (Nat.le_refl _) _⟩
        go_simp
        refine hK.out _ _ (sE_later HSA.out HQ2.out.2) (fun hS => ?_)
        clear hK K z0 z1 z2 z3 f0 f1 f2 f3
        refine tkH 17 ?_ hS (fun wx hx => ?_) ?_; rotate_left
        · obtain ⟨⟨hx0, hx1, hx2, hx3, hx4⟩, _⟩ := H0.out.kb.later hx.1; obtain ⟨⟨hy0, hy1, hy2, hy3, hy4, hy5⟩, _⟩ := hx.2.1; go_simp; try with_reducible rfl
        refine wpAnyH_done (by kernel_rfl) ?_ _
        go_simp
        generalize ((((w6.setCell ⟨w5.heap.size, 0, none⟩ (.int .i64 a0)).setCell ⟨w5.heap.size, 1, none⟩ (.int .i64 a1)).setCell ⟨w5.heap.size, 2, none⟩ (.int .i64 a2)).setCell ⟨w5.heap.size, 3, none⟩ (.int .i64 a3)) = wz at HQ2 hS ⊢
      rotate_left
    rotate_left 2
    focus
      go_simp
      have HQ : Hid (Blk4 (wa.alloc (.cells #[.int .i64 0, .int .i64 0, .int .i64 0, .int .i64 0] 102)) wa.heap.size (.int .i64 0) (.int .i64 0) (.int .i64 0) (.int .i64 0) ∧ Below wa.heap.size wa (wa.alloc (.cells #[.int .i64 0, .int .i64 0, .int .i64 0, .int .i64 0] 102))) := ⟨Blk4.new _ _ _ _ _ _, below_alloc _ _⟩
      have HSA : Hid ((Below x0.heap.size x0 wa) ∧ Blk6 wa wr.heap.size (.int .i64 t.s) (.int .i64 t.c) (.int .i64 t.u) (.int .i64 t.st) (.int .i64 t.a) (.slice (some ⟨gy, oy, none⟩) t.m yc) ∧ RisD wa x0.heap.size (donesL R k)) := hS
      refine hK.out _ _ (sE_later hS (below_alloc _ _)) (fun hS => ?_)
      clear hK K
      refine rdH 5 (fun K hK => ?_)
      go_simp
      go_wp2_with fail
      refine (storeOf_is key Bw n F S _ n P j _ (H0.out.work.later hS.1) HJ.out hn).mono ?_
      rintro e w5 ⟨rfl, q5⟩
      have hS5 := sE_later hS q5
      have HQ : Hid (Blk4 w5 wa.heap.size (.int .i64 0) (.int .i64 0) (.int .i64 0) (.int .i64 0) ∧ Below wa.heap.size wa w5) := ⟨HQ.out.1.later q5, HQ.out.2.trans (q5.mono HQ.out.2.size)⟩
      go_wp2_with fail
      refine hK.out _ _ hS5 (fun hS => ?_)
      clear hK K hS5
      refine tkH 6 ?_ hS (fun wx hx => ?_) ?_; rotate_left
      · obtain ⟨⟨hx0, hx1, hx2, hx3, hx4⟩, _⟩ := H0.out.kb.later hx.1; obtain ⟨⟨hy0, hy1, hy2, hy3, hy4, hy5⟩, _⟩ := hx.2.1; go_simp; try with_reducible rfl
      refine tkH 7 ?_ hS (fun wx hx => ?_) ?_; rotate_left
      · obtain ⟨⟨hx0, hx1, hx2, hx3, hx4⟩, _⟩ := H0.out.kb.later hx.1; obtain ⟨⟨hy0, hy1, hy2, hy3, hy4, hy5⟩, _⟩ := hx.2.1; go_simp; try with_reducible rfl
      try simp only [Act.put, List.getElem_toArray, List.getElem_cons_zero, List.getElem_cons_succ, List.setIfInBounds_toArray, List.set_cons_succ, List.set_cons_zero]
      refine rdH 11 (fun K hK => ?_)
      go_simp
      go_wp2_with fail
      obtain ⟨N, mm, gm, u1, u2, hNl, _, hRS⟩ := (H0.out.work.later hS.1).2 j HJ.out.1
      refine (doneOf_anyO _ (P j) 3 N mm _ _ _ _ gm u1 u2 key t.s _ hRS.2.1 hNl.2.2).mono ?_
      rintro e w6 ⟨u, rfl, hTold, q6⟩
      obtain ⟨a0, a1, a2, a3, sb, rfl, hsb⟩ := doneT hTold HD.out
      have HSB : Hid ((sb = true ∧ R k = some a1) ∨ (sb = false ∧ R k = none)) := hsb
      have hS6 := sE_later hS q6
      clear hTold hsb hRS hNl
      have HQ : Hid (Blk4 w6 wa.heap.size (.int .i64 0) (.int .i64 0) (.int .i64 0) (.int .i64 0) ∧ Below wa.heap.size wa w6) := ⟨HQ.out.1.later q6, HQ.out.2.trans (q6.mono HQ.out.2.size)⟩
      go_wp2_with fail
      refine hK.out _ _ hS6 (fun hS => ?_)
      clear hK K hS6 q6 q5
      refine tkH 12 ?_ hS (fun wx hx => ?_) ?_; rotate_left
      · obtain ⟨⟨hx0, hx1, hx2, hx3, hx4⟩, _⟩ := H0.out.kb.later hx.1; obtain ⟨⟨hy0, hy1, hy2, hy3, hy4, hy5⟩, _⟩ := hx.2.1; go_simp; try with_reducible rfl
      refine tkH 13 ?_ hS (fun wx hx => ?_) ?_; rotate_left
      · obtain ⟨⟨hx0, hx1, hx2, hx3, hx4⟩, _⟩ := H0.out.kb.later hx.1; obtain ⟨⟨hy0, hy1, hy2, hy3, hy4, hy5⟩, _⟩ := hx.2.1; go_simp; try with_reducible rfl
      refine tkH 14 ?_ hS (fun wx hx => ?_) ?_; rotate_left
      · obtain ⟨⟨hx0, hx1, hx2, hx3, hx4⟩, _⟩ := H0.out.kb.later hx.1; obtain ⟨⟨hy0, hy1, hy2, hy3, hy4, hy5⟩, _⟩ := hx.2.1; go_simp; try with_reducible rfl
      try simp only [Act.put, List.getElem_toArray, List.getElem_cons_zero, List.getElem_cons_succ, List.setIfInBounds_toArray, List.set_cons_succ, List.set_cons_zero]
      refine rdH 16 (fun K hK => ?_)
      obtain ⟨⟨z0, z1, z2, z3⟩, zf⟩ := HQ.out.1
      have hqlt : wa.heap.size < w6.heap.size := HQ.out.1.lt
      obtain ⟨f0, f1, f2, f3⟩ := zf
      have HQ2 : Hid (Blk4 ((((w6.setCell ⟨wa.heap.size, 0, none⟩ (.int .i64 a0)).setCell ⟨wa.heap.size, 1, none⟩ (.int .i64 a1)).setCell ⟨wa.heap.size, 2, none⟩ (.int .i64 a2)).setCell ⟨wa.heap.size, 3, none⟩ (.int .i64 a3)) wa.heap.size (.int .i64 a0) (.int .i64 a1) (.int .i64 a2) (.int .i64 a3) ∧ Below wa.heap.size wa ((((w6.setCell ⟨wa.heap.size, 0, none⟩ (.int .i64 a0)).setCell ⟨wa.heap.size, 1, none⟩ (.int .i64 a1)).setCell ⟨wa.heap.size, 2, none⟩ (.int .i64 a2)).setCell ⟨wa.heap.size, 3, none⟩ (.int .i64 a3))) := ⟨Blk4.putD HQ.out.1 _ _ _ _, (((HQ.out.2.setCell (Nat.le_refl _) _).setCell (Nat.le_refl _) _).setCell (Nat.le_refl _) _).setCell (Nat.le_refl _) _⟩
      go_simp
      refine hK.out _ _ (sE_later HSA.out HQ2.out.2) (fun hS => ?_)
      clear hK K z0 z1 z2 z3 f0 f1 f2 f3
      refine tkH 17 ?_ hS (fun wx hx => ?_) ?_; rotate_left
      · obtain ⟨⟨hx0, hx1, hx2, hx3, hx4⟩, _⟩ := H0.out.kb.later hx.1; obtain ⟨⟨hy0, hy1, hy2, hy3, hy4, hy5⟩, _⟩ := hx.2.1; go_simp; try with_reducible rfl
      refine wpAnyH_done (by kernel_rfl) ?_ _
      go_simp
      generalize ((((w6.setCell ⟨wa.heap.size, 0, none⟩ (.int .i64 a0)).setCell ⟨wa.heap.size, 1, none⟩ (.int .i64 a1)).setCell ⟨wa.heap.size, 2, none⟩ (.int .i64 a2)).setCell ⟨wa.heap.size, 3, none⟩ (.int .i64 a3)) = wz at HQ2 hS ⊢
    rotate_left
    all_goals
      have HSZ : Hid ((Below x0.heap.size x0 wz) ∧ Blk6 wz wr.heap.size (.int .i64 t.s) (.int .i64 t.c) (.int .i64 t.u) (.int .i64 t.st) (.int .i64 t.a) (.slice (some ⟨gy, oy, none⟩) t.m yc) ∧ RisD wz x0.heap.size (donesL R k)) := hS
      obtain ⟨⟨z0, z1, z2, z3⟩, _⟩ := HQ2.out.1
      clear hS HSA HQ HQ2
      rcases HSB.out with ⟨e1, e2⟩ | ⟨e1, e2⟩
      · subst e1
        have HE : Hid (donesL R (k + 1) = putD (donesL R k) (k, a1)) := by unfold Hid; rw [donesL, e2]
        clear e2 HSB
        go_wp2_with fail
        refine (put_anyD (donesL R k) x0.heap.size k a1 _ HSZ.out.2.2 (donesL_rises R k) (fun e he => by have := donesL_lt R k e he; omega) (by have := donesL_len R k; omega)).mono ?_
        rintro e w7 ⟨rfl, r7, q7⟩
        rw [← HE.out] at r7
        have H7 : Hid ((Below x0.heap.size x0 w7) ∧ RisD w7 x0.heap.size (donesL R (k + 1))) := ⟨HSZ.out.1.trans q7, r7⟩
        clear r7 q7 HSZ
        go_wp2
        go_roundw
        case rel => exact ⟨k + 1, by omega, by go_num, H7⟩
        case measure => simp [intOf]; omega
      · subst e1
        have HE : Hid (donesL R (k + 1) = donesL R k) := by unfold Hid; rw [donesL, e2]
        clear e2 HSB
        go_wp2
        go_roundw
        case rel =>
          refine ⟨k + 1, by omega, by go_num, HSZ.out.1, ?_⟩
          rw [HE.out]
          exact HSZ.out.2.2
        case measure => simp [intOf]; omega
end Go.Proofs.YtdbcmckoiacemaaGreat

namespace Go.Proofs.YtdbcmckoiacemaaGreat
open Go.RowKit

/-- The model's place: behind all whose commit is not above. -/
theorem place_model {L : Prs} {x : Int × Int} {i : Nat} (hx : ∀ e ∈ L, e.1 < x.1) (h : placeAt (fun j => (L.getD j (0, 0)).2 ≤ x.2) L.length i) : i = aheadDN L x := by
  obtain ⟨h1, h2, h3⟩ := h
  rcases Nat.lt_trichotomy i (aheadDN L x) with q | q | q
  · have hl := aheadDN_lt q
    unfold ltD at hl
    exact absurd (show (L.getD i (0, 0)).2 ≤ x.2 by omega) (h3 (Nat.lt_of_lt_of_le q (aheadDN_le L x)))
  · exact q
  · have hlen : aheadDN L x < L.length := by omega
    have hn := aheadDN_not hlen
    have hle := h2 _ q
    have hg : L.getD (aheadDN L x) (0, 0) = L[aheadDN L x] := by simp [List.getD, hlen]
    have hm := hx _ (List.getElem_mem hlen)
    simp only at hle
    rw [hg] at hn hle
    unfold ltD at hn
    exact absurd (show _ ∨ _ by omega) hn
theorem row_litD (w : World) (x0 x1 : Int) (t : TypeId) : Row (w.alloc (.cells #[.int .i64 x0, .int .i64 x1] t)) 0 2 1 (fun p => [x0, x1].getD p 0) (.slice (some ⟨w.heap.size, 0, none⟩) 1 1) := by
  refine ⟨_, _, rfl, fun _ => ⟨w.heap.size, 0, rfl, Nat.zero_le _, by simp, fun p hp => ?_⟩⟩
  rw [Nat.zero_add, World.cell?_alloc_mark]
  match p, hp with
  | 0, _ => rfl
  | 1, _ => rfl
/-- What the model asks of the first item's store, and whether it was done. -/
theorem stat_done {nl : Nat} {l : Nat → Int} {nw : Nat} {k : Nat → Int} {key start : Int} {r : Option Int} (hD : (∃ i, doneW k nw key start i ∧ r = some (k (i * 4 + 1))) ∨ ((∀ i, ¬ doneW k nw key start i) ∧ r = none)) :
    ∃ st, StatIs nl l nw k key start st ∧ ((st = 2 ∧ ∃ i, firstW k nw key start i ∧ r = some (k (i * 4 + 1))) ∨ (st ≠ 2 ∧ r = none)) := by
  obtain ⟨st, hst⟩ := StatIs.get nl l nw k key start
  refine ⟨st, hst, ?_⟩
  rcases hD with ⟨i, hi, rfl⟩ | ⟨hno, rfl⟩
  · refine Or.inl ⟨?_, i, hi.1, rfl⟩
    rcases hst with ⟨j, hj, h⟩ | ⟨hn, _⟩
    · obtain rfl := firstW_one hi.1 hj
      rcases h with ⟨h4, _⟩ | ⟨_, h2⟩
      · exact absurd h4 hi.2
      · exact h2
    · exact absurd hi.1 (hn i)
  · refine Or.inr ⟨?_, rfl⟩
    rintro rfl
    rcases hst with ⟨j, hj, h⟩ | ⟨_, h⟩
    · rcases h with ⟨_, h⟩ | ⟨h4, _⟩
      · exact absurd h (by decide)
      · exact hno j ⟨hj, h4⟩
    · rcases h with ⟨j, _, ⟨_, h⟩ | ⟨_, h⟩⟩ | ⟨_, h⟩
      · exact absurd h (by decide)
      · exact absurd h (by decide)
      · exact absurd h (by decide)
/-- What stands while a commit is looked up. -/
def LookE (w : World) (b gx ox k gs os gw ow i : Nat) (vt vw : Value) (s c : Int) (X : World) : Prop :=
  (X.cell? ⟨b, 5, none⟩ = some vt ∧ X.cell? ⟨gx, ox + k * 6, none⟩ = some (.int .i64 s) ∧ X.cell? ⟨gs, os + 2, none⟩ = some vw ∧ X.cell? ⟨gw, ow + i * 4 + 1, none⟩ = some (.int .i64 c)) ∧ Below w.heap.size w X
theorem LookE.later {w X X' : World} {b gx ox k gs os gw ow i : Nat} {vt vw : Value} {s c : Int} (h : LookE w b gx ox k gs os gw ow i vt vw s c X) (hb : Below X.heap.size X X') : LookE w b gx ox k gs os gw ow i vt vw s c X' :=
  ⟨⟨(hb.cell (lt_cell h.1.1)).trans h.1.1, (hb.cell (lt_cell h.1.2.1)).trans h.1.2.1, (hb.cell (lt_cell h.1.2.2.1)).trans h.1.2.2.1, (hb.cell (lt_cell h.1.2.2.2)).trans h.1.2.2.2⟩, h.2.trans (hb.mono h.2.size)⟩
/-- What stands while the place is looked for. -/
def InE (w : World) (z k : Nat) (c : Int) (L : Prs) (v : Value) (X : World) : Prop := Blk2 X z (.int .i64 k) (.int .i64 c) ∧ Own X w.heap.size 110 2 L.length (rowL L) v ∧ Below w.heap.size w X
theorem InE.drewN {w X : World} {z k : Nat} {c : Int} {L : Prs} {v : Value} (h : InE w z k c L v X) (q : Nat) : InE w z k c L v (X.drewN q) := ⟨h.1, h.2.1, below_dn h.2.2 _⟩
theorem Own.capD {w : World} {B : Nat} {e : TypeId} {m n : Nat} {ao : Option Addr} {cp : Nat} {F : Nat → Int} (h : Own w B e m n F (.slice ao n cp)) : n ≤ cp := by
  rcases h.2 with ⟨q, e⟩ | ⟨g, cap, cur, q, _, _, hn, _⟩
  · cases q; exact Nat.le_refl _
  · cases q; exact hn
set_option maxRecDepth 100000 in
set_option maxHeartbeats 8000000 in
theorem l11Committed_is (b : Nat) (nw nx bd : Int) (nr : Nat) (F : Nat → Int) (n : Nat) (S : Nat → Sto) (V : Nat → Nat → Value) (vr vs : Value) (nt : Nat) (T : Nat → Tx) (X : Nat → Value) (vt : Value) (R : Nat → Option Int) (w : World) (h : LiesD w b nw nx bd nr F n S V vr vs nt T X vt) (hr : nr ≤ 6) (hn : n = nr) (hs : ∀ i, i < n → (S i).nl ≤ 200 ∧ (S i).nw ≤ 200) (hnt : nt ≤ 16) (hit : ∀ i, i < nt → 1 ≤ (T i).m) (hR : ∀ i, i < nt → DoneAt nr F S (T i) (R i)) :
    Calls Tryz.prog 22 #[.pointer (some ⟨b, 0, none⟩)] w fun e w' => ∃ ao cp, e = .returned (.slice ao (donesL R nt).length cp) ∧ Own w' w.heap.size 110 2 (donesL R nt).length (rowL (donesL R nt)) (.slice ao (donesL R nt).length cp) ∧ Below w.heap.size w w' := by
  obtain ⟨a0, c0, a1, c1, rfl, rfl⟩ := h.2.1.form
  obtain ⟨a2, c2, rfl⟩ := h.2.2.form
  have H : Hid (LiesD w b nw nx bd nr F n S V (.slice a0 nr c0) (.slice a1 n c1) nt T X (.slice a2 nt c2)) := h
  have HR : Hid (∀ i, i < nt → DoneAt nr F S (T i) (R i)) := hR
  have HIT : Hid (∀ i, i < nt → 1 ≤ (T i).m) := hit
  have HS : Hid (∀ i, i < n → (S i).nl ≤ 200 ∧ (S i).nw ≤ 200) := hs
  have p5 : w.cell? ⟨b, 5, none⟩ = some (.slice a2 nt c2) := h.1.1.2.2.2.2.2
  have hb : b < w.heap.size := h.1.lt
  obtain ⟨i0, hi, hz0, hz1, hz2⟩ := info_parts infoz_Done
  clear h hR hit hs
  go_enter Tryz.func22, Tryz.ntmps22
  go_wp2
  go_loopw [3, 4] (fun out i wr => ∃ (k : Nat) (ao : Option Addr) (cp : Nat), k ≤ nt ∧ i = .int .i64 k ∧ out = .slice ao (donesL R k).length cp ∧ Hid (Own wr w.heap.size 110 2 (donesL R k).length (rowL (donesL R k)) (.slice ao (donesL R k).length cp)) ∧ Hid (Below w.heap.size w wr)) (fun _ i _ => nt - (intOf i).toNat)
  case atStart => exact ⟨0, _, _, Nat.zero_le _, rfl, rfl, (OwnM.lit0 w w.heap.size 110 2 rfl).own rfl, below_alloc _ _⟩
  case round =>
    obtain ⟨k, ao, cp, hk, rfl, rfl, HO, HB⟩ := hrel
    have q5 := (HB.out.cell (p := ⟨b, 5, none⟩) hb).trans p5
    by_cases hlt : k < nt
    case neg =>
      obtain rfl : k = nt := by omega
      obtain ⟨LN, hLN⟩ : ∃ LN, (donesL R k).length = LN := ⟨_, rfl⟩
      have HLN : Hid ((donesL R k).length = LN) := hLN
      rw [hLN]
      clear hLN
      go_wp2
      refine bodyPost_ret (v := .slice ao LN cp) (by simp [results, Tryz.results22, go_sem]) rfl ?_
      rw [← HLN.out]
      exact ⟨ao, cp, rfl, HO.out, HB.out⟩
    obtain ⟨L, hL⟩ : ∃ L, donesL R k = L := ⟨_, rfl⟩
    have hLl : L.length ≤ 16 := by have := donesL_len R k; rw [hL] at this; omega
    have HLT : Hid ((∀ e ∈ L, e.1 < (k : Int)) ∧ donesL R k = L) := ⟨fun e he => donesL_lt R k e (by rw [hL]; exact he), hL⟩
    rw [hL] at HO ⊢
    clear hL
    obtain ⟨gx, ox, hax, _, hgx, ⟨x0, _, _, _, _, x5⟩, hrow, _⟩ := H.out.2.2.at hlt
    subst hax
    have hm1 := HIT.out k hlt
    obtain ⟨j, hj, hD⟩ := HR.out k hlt
    obtain ⟨t, ht⟩ : ∃ t, T k = t := ⟨_, rfl⟩
    rw [ht] at x0 hrow hm1 hj hD
    obtain ⟨y, hy⟩ : ∃ y, X k = y := ⟨_, rfl⟩
    rw [hy] at x5 hrow
    clear ht hy
    obtain ⟨yo, yc, rfl⟩ := hrow.form
    obtain ⟨gy, oy, hyo, _, hgy, k0, _, _⟩ := hrow.at3 (k := 0) (by omega)
    subst hyo
    simp only [Nat.zero_mul, Nat.add_zero] at k0
    obtain ⟨key, hkey⟩ : ∃ x, t.L 0 = x := ⟨_, rfl⟩
    rw [hkey] at k0 hj hD
    have HJ : Hid (AtR nr F key j) := hj
    have hjn : j < n := by rw [hn]; exact hj.1
    obtain ⟨gs, os, has, _, hgs, _, _⟩ := H.out.2.1.2.at hjn
    subst has
    obtain ⟨st, hst, hD⟩ := stat_done (nl := (S j).nl) (l := (S j).l) hD
    have HST : Hid (StatIs (S j).nl (S j).l (S j).nw (S j).k key t.s st) := hst
    have HDD : Hid ((st = 2 ∧ ∃ i, firstW (S j).k (S j).nw key t.s i ∧ R k = some ((S j).k (i * 4 + 1))) ∨ (st ≠ 2 ∧ R k = none)) := hD
    clear hj hD hst hrow hkey
    have r0 := (HB.out.cell (p := ⟨gx, ox + k * 6, none⟩) hgx).trans x0
    have r5 := (HB.out.cell (p := ⟨gx, ox + k * 6 + 5, none⟩) hgx).trans x5
    have rk := (HB.out.cell (p := ⟨gy, oy, none⟩) hgy).trans k0
    go_wp2_with fail
    refine (l7For_at nr F n S V _ _ gs os c1 key j b _ (H.out.later HB.out).groups hr HJ.out hjn).mono ?_
    rintro e w1 ⟨rfl, hw1⟩
    have HB1 : Hid (Below w.heap.size w w1) := by rw [hw1]; exact below_dr HB.out 1
    have HO1 : Hid (Own w1 w.heap.size 110 2 L.length (rowL L) (.slice ao L.length cp)) := by rw [hw1]; exact HO.out
    have L1 : Hid (LiesO w1 gs (os + j * 3) (S j) (V j 0) (V j 1) (V j 2)) := (H.out.2.1.2.later HB1.out).o hjn
    clear hw1 q5 r0 r5 rk HO HB
    have q5 := (HB1.out.cell (p := ⟨b, 5, none⟩) hb).trans p5
    have r0 := (HB1.out.cell (p := ⟨gx, ox + k * 6, none⟩) hgx).trans x0
    go_wp2_with fail
    refine (l4Status_isO (S j) gs (os + j * 3) _ _ _ key t.s st _ L1.out (HS.out j hjn).1 (HS.out j hjn).2 HST.out).mono ?_
    rintro e w2 ⟨rfl, hw2⟩
    obtain rfl := hw2.symm
    clear hw2
    rcases HDD.out with ⟨h2, i, hfi, hRk⟩ | ⟨h2, hRk⟩
    case inr =>
      have d2 : (st != 2) = true := bne_iff_ne.2 h2
      have HE : Hid (donesL R (k + 1) = L) := by unfold Hid; rw [donesL, hRk]; exact HLT.out.2
      clear h2 hRk HDD
      go_wp2
      go_roundw
      case rel => exact ⟨k + 1, ao, cp, by omega, by go_num, by rw [HE.out], by rw [HE.out]; exact HO1, HB1⟩
      case measure => simp [intOf]; omega
    subst h2
    obtain ⟨f0, e0, f1, e1, f2, e2, v0, v1, v2⟩ := L1.out.2.form
    have p2 := L1.out.1.2.2
    rw [v2] at p2
    have R2 := L1.out.2.2.2
    rw [v2] at R2
    obtain ⟨gw, ow, rfl, _, hgw, _, y1, _, _⟩ := R2.at4 hfi.1
    obtain ⟨c, hc⟩ : ∃ c, (S j).k (i * 4 + 1) = c := ⟨_, rfl⟩
    rw [hc] at y1 hRk
    have HNX : Hid (donesL R (k + 1) = putD L (k, c)) := by unfold Hid; rw [donesL, hRk, HLT.out.2]
    have HFI : Hid (firstW (S j).k (S j).nw key t.s i) := hfi
    have hin : (i : Int) < ((S j).nw : Int) := by have := hfi.1; omega
    have hS0 : LookE w b gx ox k gs (os + j * 3) gw ow i (.slice (some ⟨gx, ox, none⟩) nt c2) (.slice (some ⟨gw, ow, none⟩) (S j).nw e2) t.s c w1.drew := ⟨⟨q5, r0, p2, y1⟩, HB1.out.drew⟩
    clear hfi hRk hc HDD HST v0 v1 v2 R2
    go_wp2_with fail
    refine wp_region_held_drew (S := LookE w b gx ox k gs (os + j * 3) gw ow i (.slice (some ⟨gx, ox, none⟩) nt c2) (.slice (some ⟨gw, ow, none⟩) (S j).nw e2) t.s c) (by kernel_rfl) hS0 (fun hS => ?_)
    have La : Hid (LiesO w1.drew gs (os + j * 3) (S j) (V j 0) (V j 1) (V j 2)) := L1.out.later (Below.refl _ w1).drew
    have HOa : Hid (Own w1.drew w.heap.size 110 2 L.length (rowL L) (.slice ao L.length cp)) := HO1.out
    clear hS0 q5 r0 p2 y1 L1 HO1 HB1
    generalize w1.drew = wa at hS La HOa ⊢
    refine tkH 0 ?_ hS (fun wx hx => ?_) ?_; rotate_left
    · obtain ⟨⟨hx0, hx1, hx2, hx3⟩, _⟩ := hx; go_simp; try with_reducible rfl
    refine tkH 1 ?_ hS (fun wx hx => ?_) ?_; rotate_left
    · obtain ⟨⟨hx0, hx1, hx2, hx3⟩, _⟩ := hx; go_simp; try with_reducible rfl
    refine tkH 2 ?_ hS (fun wx hx => ?_) ?_; rotate_left
    · obtain ⟨⟨hx0, hx1, hx2, hx3⟩, _⟩ := hx; go_simp; try with_reducible rfl
    try simp only [Act.put, List.getElem_toArray, List.getElem_cons_zero, List.getElem_cons_succ, List.setIfInBounds_toArray, List.set_cons_succ, List.set_cons_zero]
    refine tkH 3 ?_ hS (fun wx hx => ?_) ?_; rotate_left
    · obtain ⟨⟨hx0, hx1, hx2, hx3⟩, _⟩ := hx; go_simp; try with_reducible rfl
    refine tkH 4 ?_ hS (fun wx hx => ?_) ?_; rotate_left
    · obtain ⟨⟨hx0, hx1, hx2, hx3⟩, _⟩ := hx; go_simp; try with_reducible rfl
    refine tkH 5 ?_ hS (fun wx hx => ?_) ?_; rotate_left
    · obtain ⟨⟨hx0, hx1, hx2, hx3⟩, _⟩ := hx; go_simp; try with_reducible rfl
    try simp only [Act.put, List.getElem_toArray, List.getElem_cons_zero, List.getElem_cons_succ, List.setIfInBounds_toArray, List.set_cons_succ, List.set_cons_zero]
    refine tkH 6 ?_ hS (fun wx hx => ?_) ?_; rotate_left
    · obtain ⟨⟨hx0, hx1, hx2, hx3⟩, _⟩ := hx; go_simp; try with_reducible rfl
    refine tkH 7 ?_ hS (fun wx hx => ?_) ?_; rotate_left
    · obtain ⟨⟨hx0, hx1, hx2, hx3⟩, _⟩ := hx; go_simp; try with_reducible rfl
    refine tkH 8 ?_ hS (fun wx hx => ?_) ?_; rotate_left
    · obtain ⟨⟨hx0, hx1, hx2, hx3⟩, _⟩ := hx; go_simp; try with_reducible rfl
    try simp only [Act.put, List.getElem_toArray, List.getElem_cons_zero, List.getElem_cons_succ, List.setIfInBounds_toArray, List.set_cons_succ, List.set_cons_zero]
    refine tkH 9 ?_ hS (fun wx hx => ?_) ?_; rotate_left
    · obtain ⟨⟨hx0, hx1, hx2, hx3⟩, _⟩ := hx; go_simp; try with_reducible rfl
    refine tkH 10 ?_ hS (fun wx hx => ?_) ?_; rotate_left
    · obtain ⟨⟨hx0, hx1, hx2, hx3⟩, _⟩ := hx; go_simp; try with_reducible rfl
    refine tkH 11 ?_ hS (fun wx hx => ?_) ?_; rotate_left
    · obtain ⟨⟨hx0, hx1, hx2, hx3⟩, _⟩ := hx; go_simp; try with_reducible rfl
    try simp only [Act.put, List.getElem_toArray, List.getElem_cons_zero, List.getElem_cons_succ, List.setIfInBounds_toArray, List.set_cons_succ, List.set_cons_zero]
    refine tkH 12 ?_ hS (fun wx hx => ?_) ?_; rotate_left
    · obtain ⟨⟨hx0, hx1, hx2, hx3⟩, _⟩ := hx; go_simp; try with_reducible rfl
    refine tkH 13 ?_ hS (fun wx hx => ?_) ?_; rotate_left
    · obtain ⟨⟨hx0, hx1, hx2, hx3⟩, _⟩ := hx; go_simp; try with_reducible rfl
    refine tkH 14 ?_ hS (fun wx hx => ?_) ?_; rotate_left
    · obtain ⟨⟨hx0, hx1, hx2, hx3⟩, _⟩ := hx; go_simp; try with_reducible rfl
    try simp only [Act.put, List.getElem_toArray, List.getElem_cons_zero, List.getElem_cons_succ, List.setIfInBounds_toArray, List.set_cons_succ, List.set_cons_zero]
    have HSA : Hid (LookE w b gx ox k gs (os + j * 3) gw ow i (.slice (some ⟨gx, ox, none⟩) nt c2) (.slice (some ⟨gw, ow, none⟩) (S j).nw e2) t.s c wa) := hS
    refine wpAnyH_ready (rs := [15, 20]) (by kernel_rfl) (by simp) ?_
    refine AllReadyH.cons rfl (fun K hK => ?_) (AllReadyH.cons rfl (fun K hK => ?_) AllReadyH.nil)
    focus
      go_simp
      go_wp2_with fail
      refine (write_yesO (S j) gs (os + j * 3) _ _ _ key t.s i _ La.out (HS.out j hjn).2 HFI.out).mono ?_
      rintro e w3 ⟨rfl, hw3⟩
      obtain rfl := hw3.symm
      clear hw3
      go_wp2_with fail
      refine hK.out _ _ hS (fun hS => ?_)
      clear hK K
      refine tkH 16 ?_ hS (fun wx hx => ?_) ?_; rotate_left
      · obtain ⟨⟨hx0, hx1, hx2, hx3⟩, _⟩ := hx; go_simp; try with_reducible rfl
      refine tkH 17 ?_ hS (fun wx hx => ?_) ?_; rotate_left
      · obtain ⟨⟨hx0, hx1, hx2, hx3⟩, _⟩ := hx; go_simp; try with_reducible rfl
      refine tkH 18 ?_ hS (fun wx hx => ?_) ?_; rotate_left
      · obtain ⟨⟨hx0, hx1, hx2, hx3⟩, _⟩ := hx; go_simp; try with_reducible rfl
      try simp only [Act.put, List.getElem_toArray, List.getElem_cons_zero, List.getElem_cons_succ, List.setIfInBounds_toArray, List.set_cons_succ, List.set_cons_zero]
      refine tkH 19 ?_ hS (fun wx hx => ?_) ?_; rotate_left
      · obtain ⟨⟨hx0, hx1, hx2, hx3⟩, _⟩ := hx; go_simp; try with_reducible rfl
      refine rdH 20 (fun K hK => ?_)
      go_simp
      refine hK.out _ _ (HSA.out.later (below_alloc _ _)) (fun hS => ?_)
      clear hK K
    rotate_left
    focus
      go_simp
      refine hK.out _ _ (HSA.out.later (below_alloc _ _)) (fun hS => ?_)
      clear hK K
      refine rdH 15 (fun K hK => ?_)
      go_simp
      go_wp2_with fail
      refine (write_yesO (S j) gs (os + j * 3) _ _ _ key t.s i _ (La.out.later (below_alloc _ _)) (HS.out j hjn).2 HFI.out).mono ?_
      rintro e w3 ⟨rfl, hw3⟩
      obtain rfl := hw3.symm
      clear hw3
      go_wp2_with fail
      refine hK.out _ _ hS (fun hS => ?_)
      clear hK K
      refine tkH 16 ?_ hS (fun wx hx => ?_) ?_; rotate_left
      · obtain ⟨⟨hx0, hx1, hx2, hx3⟩, _⟩ := hx; go_simp; try with_reducible rfl
      refine tkH 17 ?_ hS (fun wx hx => ?_) ?_; rotate_left
      · obtain ⟨⟨hx0, hx1, hx2, hx3⟩, _⟩ := hx; go_simp; try with_reducible rfl
      refine tkH 18 ?_ hS (fun wx hx => ?_) ?_; rotate_left
      · obtain ⟨⟨hx0, hx1, hx2, hx3⟩, _⟩ := hx; go_simp; try with_reducible rfl
      try simp only [Act.put, List.getElem_toArray, List.getElem_cons_zero, List.getElem_cons_succ, List.setIfInBounds_toArray, List.set_cons_succ, List.set_cons_zero]
      refine tkH 19 ?_ hS (fun wx hx => ?_) ?_; rotate_left
      · obtain ⟨⟨hx0, hx1, hx2, hx3⟩, _⟩ := hx; go_simp; try with_reducible rfl
    rotate_left
    all_goals
      refine rdH 21 (fun K hK => ?_)
      go_simp
      refine hK.out _ _ (HSA.out.later (below_alloc wa (.cells #[.int .i64 k, .int .i64 c] 110))) (fun hS => ?_)
      clear hK K
      refine wpAnyH_done (by kernel_rfl) ?_ _
      go_simp
      have HI0 : Hid (InE w wa.heap.size k c L (.slice ao L.length cp) (wa.alloc (.cells #[.int .i64 k, .int .i64 c] 110))) := ⟨Blk2.new wa _ _ _, HOa.out.alloc _, HSA.out.2.alloc HSA.out.2.size _⟩
      generalize (wa.alloc (.cells #[.int .i64 k, .int .i64 c] 110)) = Xa at HI0 ⊢
      clear hS HSA La HOa
      go_wp2
      go_loopw [8] (fun i2 wr2 => ∃ q : Nat, i2 = .int .i64 q ∧ q ≤ L.length ∧ Hid (∀ j, j < q → (L.getD j (0, 0)).2 ≤ c) ∧ Hid (InE w wa.heap.size k c L (.slice ao L.length cp) wr2)) (fun i2 _ => L.length - (intOf i2).toNat)
      case atStart => exact ⟨0, rfl, Nat.zero_le _, fun j hj => absurd hj (Nat.not_lt_zero j), HI0⟩
      case round =>
        clear HI0
        obtain ⟨q, rfl, hq, hP, HI⟩ := hrel
        have hcap : L.length ≤ cp := HI.out.2.1.capD
        obtain ⟨⟨t0, t1⟩, _, _⟩ := HI.out.1
        by_cases hlt2 : q < L.length
        · obtain ⟨g2, o2, hao2, _, hg2, _, z1⟩ := HI.out.2.1.row.1.at2 hlt2
          subst hao2
          rw [rowL_val] at z1
          obtain ⟨y2, N2⟩ : ∃ y, (L.getD q (0, 0)).2 = y := ⟨_, rfl⟩
          rw [N2] at z1
          have HN2 : Hid ((L.getD q (0, 0)).2 = y2) := N2
          clear N2
          by_cases hle : y2 ≤ c
          · have HP : Hid (∀ j, j < q + 1 → (L.getD j (0, 0)).2 ≤ c) := fun j hj => by
              rcases Nat.lt_or_ge j q with r | r
              · exact hP.out j r
              · obtain rfl : j = q := by omega
                rw [HN2.out]
                exact hle
            have d2 : decide (y2 ≤ c) = true := decide_eq_true hle
            clear hP
            go_wp2
            go_quiet (fail)
            go_wp2
            go_roundw
            case rel => exact ⟨q + 1, by go_num, by omega, HP, HI.out.drewN _⟩
            case measure => simp [intOf]; omega
          · have HQ : Hid (q = aheadDN L (k, c)) := place_model HLT.out.1 ⟨hq, hP.out, fun _ => by show ¬ ((L.getD q (0, 0)).2 ≤ c); rw [HN2.out]; exact hle⟩
            have d2 : decide (y2 ≤ c) = false := decide_eq_false hle
            clear hP
            go_wp2
            go_quiet (fail)
            have HI : Hid (InE w wa.heap.size k c L (.slice (some ⟨g2, o2, none⟩) L.length cp) (wr.drewN nq)) := HI.out.drewN _
            generalize wr.drewN nq = Xr at HI ⊢
            have hzr : wa.heap.size < Xr.heap.size := HI.out.1.lt
            have HRow : Hid (Row Xr 0 2 L.length (rowL L) (.slice (some ⟨g2, o2, none⟩) L.length cp)) := HI.out.2.1.row.1.mono (Nat.zero_le _)
            have HBX : Hid (Below w.heap.size w Xr) := HI.out.2.2
            have hqcp : q ≤ cp := by omega
            go_wp2_with (at_builtin; refine wpList_app 110 i0 (.agg #[.int .i64 0, .int .i64 0]) 2 16 rfl _ _ 32 rfl Tryz.underlying32 hi hz0 hz1 hz2 rfl (by omega) (by omega) _ Xr.heap.size 0 [] _ rfl (OwnM.lit0 _ _ _ _ (by simp)) 0 q (rowL L) _ rfl ((HRow.out.head hq cp).alloc _) (by omega) (by simp) ?_; intro ao1 cp1 w2 O2 G2)
            rw [Nat.zero_add, List.nil_append] at O2
            have D2 : Below Xr.heap.size Xr w2 := (below_alloc _ _).grown G2 (by simp) (fun r e => by cases e; exact Nat.le_refl _)
            have O2' : Hid (OwnM w2 Xr.heap.size 110 2 (.slice ao1 q cp1) q (nums (rowL L) (q * 2))) := O2
            clear O2 G2
            refine wp_region_held_drew (S := fun Y : World => Below Xr.heap.size Xr Y) (by kernel_rfl) D2.drew (fun hS => ?_)
            refine tkH 0 ?_ hS (fun wx hx => ?_) ?_; rotate_left
            · have hx0 := (hx.cell (p := ⟨wa.heap.size, 0, none⟩) hzr).trans HI.out.1.1.1; have hx1 := (hx.cell (p := ⟨wa.heap.size, 1, none⟩) hzr).trans HI.out.1.1.2; go_simp; try with_reducible rfl
            refine tkH 1 ?_ hS (fun wx hx => ?_) ?_; rotate_left
            · have hx0 := (hx.cell (p := ⟨wa.heap.size, 0, none⟩) hzr).trans HI.out.1.1.1; have hx1 := (hx.cell (p := ⟨wa.heap.size, 1, none⟩) hzr).trans HI.out.1.1.2; go_simp; try with_reducible rfl
            refine tkH 4 ?_ hS (fun wx hx => ?_) ?_; rotate_left
            · have hx0 := (hx.cell (p := ⟨wa.heap.size, 0, none⟩) hzr).trans HI.out.1.1.1; have hx1 := (hx.cell (p := ⟨wa.heap.size, 1, none⟩) hzr).trans HI.out.1.1.2; go_simp; try with_reducible rfl
            refine tkH 5 ?_ hS (fun wx hx => ?_) ?_; rotate_left
            · have hx0 := (hx.cell (p := ⟨wa.heap.size, 0, none⟩) hzr).trans HI.out.1.1.1; have hx1 := (hx.cell (p := ⟨wa.heap.size, 1, none⟩) hzr).trans HI.out.1.1.2; go_simp; try with_reducible rfl
            refine tkH 6 ?_ hS (fun wx hx => ?_) ?_; rotate_left
            · have hx0 := (hx.cell (p := ⟨wa.heap.size, 0, none⟩) hzr).trans HI.out.1.1.1; have hx1 := (hx.cell (p := ⟨wa.heap.size, 1, none⟩) hzr).trans HI.out.1.1.2; go_simp; try with_reducible rfl
            try simp only [Act.put, List.getElem_toArray, List.getElem_cons_zero, List.getElem_cons_succ, List.setIfInBounds_toArray, List.set_cons_succ, List.set_cons_zero]
            refine rdH 2 (fun K hK => ?_)
            go_simp
            have S3 : Below Xr.heap.size Xr (w2.drew.alloc (.cells #[.int .i64 k, .int .i64 c] 110)) := hS.alloc hS.size _
            have O3 : Hid (OwnM (w2.drew.alloc (.cells #[.int .i64 k, .int .i64 c] 110)) Xr.heap.size 110 2 (.slice ao1 q cp1) q (nums (rowL L) (q * 2))) := O2'.out.later (below_alloc w2 _).drew
            have R3 : Hid (Row (w2.drew.alloc (.cells #[.int .i64 k, .int .i64 c] 110)) 0 2 1 (fun p => [(k : Int), c].getD p 0) (.slice (some ⟨w2.heap.size, 0, none⟩) 1 1)) := row_litD w2.drew k c 110
            refine hK.out _ _ S3 (fun hS => ?_)
            clear hK K S3
            refine rdH 3 (fun K hK => ?_)
            refine step_app 110 i0 (.agg #[.int .i64 0, .int .i64 0]) 2 16 (by rfl) _ _ 32 (by rfl) Tryz.underlying32 hi hz0 hz1 hz2 rfl (by omega) (by omega) _ Xr.heap.size q (nums (rowL L) (q * 2)) (.slice ao1 q cp1) (by rfl) O3.out 0 1 (fun p => [(k : Int), c].getD p 0) (.slice (some ⟨w2.heap.size, 0, none⟩) 1 1) (by rfl) R3.out (by omega) hS.size ?_
            intro ao3 cp3 w4 O4 G4
            have S4 : Below Xr.heap.size Xr w4 := hS.grown G4 hS.size (fun r e => (O3.out.block r e).1)
            have O4' : Hid (OwnM w4 Xr.heap.size 110 2 (.slice ao3 (q + 1) cp3) (q + 1) (nums (rowL L) (q * 2) ++ [(k : Int), c])) := O4
            clear O4 G4 O3 R3 O2'
            refine hK.out _ _ S4 (fun hS => ?_)
            clear hK K S4
            refine rdH 7 (fun K hK => ?_)
            refine step_app 110 i0 (.agg #[.int .i64 0, .int .i64 0]) 2 16 (by rfl) _ _ 32 (by rfl) Tryz.underlying32 hi hz0 hz1 hz2 rfl (by omega) (by omega) _ Xr.heap.size (q + 1) (nums (rowL L) (q * 2) ++ [(k : Int), c]) (.slice ao3 (q + 1) cp3) (by rfl) O4'.out 0 (L.length - q) (fun p => rowL L (q * 2 + p)) (.slice (if cp = q then some ⟨g2, o2, none⟩ else some ⟨g2, o2 + q * 2, none⟩) (L.length - q) (cp - q)) (by rfl) ((HRow.out.later hS).tailS hlt2 hcap) (by omega) hS.size ?_
            intro ao5 cp5 w6 O6 G6
            have S6 : Below Xr.heap.size Xr w6 := hS.grown G6 hS.size (fun r e => (O4'.out.block r e).1)
            have HO6 : Hid (Own w6 w.heap.size 110 2 (donesL R (k + 1)).length (rowL (donesL R (k + 1))) (.slice ao5 (donesL R (k + 1)).length cp5)) := by
              have e1 : q + 1 + (L.length - q) = L.length + 1 := by omega
              rw [e1] at O6
              unfold Hid
              rw [HNX.out, putD_length]
              refine own_eqP ((OwnM.own O6 (by rw [List.length_append, List.length_append, nums_length, nums_length]; simp; omega)).mono HBX.out.size) (fun p hp => ?_)
              unfold putD
              rw [← HQ.out]
              exact rowL_insert hq hp
            have e8 : Hid (q + 1 + (L.length - q) = (donesL R (k + 1)).length) := by unfold Hid; rw [HNX.out, putD_length]; omega
            clear O6 G6 O4'
            refine hK.out _ _ S6 (fun hS => ?_)
            clear hK K S6
            refine tkH 8 ?_ hS (fun wx hx => ?_) ?_; rotate_left
            · have hx0 := (hx.cell (p := ⟨wa.heap.size, 0, none⟩) hzr).trans HI.out.1.1.1; have hx1 := (hx.cell (p := ⟨wa.heap.size, 1, none⟩) hzr).trans HI.out.1.1.2; go_simp; try with_reducible rfl
            refine wpAnyH_done (by kernel_rfl) ?_ _
            go_simp
            go_wp2
            all_goals
              go_roundw
              case rel => exact ⟨k + 1, ao5, cp5, by omega, by go_num, by rw [e8.out], HO6, HBX.out.trans (hS.mono HBX.out.size)⟩
              case measure => simp [intOf]; omega
        · have HQ : Hid (q = aheadDN L (k, c)) := place_model HLT.out.1 ⟨hq, hP.out, fun r => absurd r hlt2⟩
          clear hP
          go_wp2
          go_quiet (fail)
          have HI : Hid (InE w wa.heap.size k c L (.slice ao L.length cp) (wr.drewN nq)) := HI.out.drewN _
          generalize wr.drewN nq = Xr at HI ⊢
          have hzr : wa.heap.size < Xr.heap.size := HI.out.1.lt
          have HRow : Hid (Row Xr 0 2 L.length (rowL L) (.slice ao L.length cp)) := HI.out.2.1.row.1.mono (Nat.zero_le _)
          have HBX : Hid (Below w.heap.size w Xr) := HI.out.2.2
          have hqcp : q ≤ cp := by omega
          go_wp2_with (at_builtin; refine wpList_app 110 i0 (.agg #[.int .i64 0, .int .i64 0]) 2 16 rfl _ _ 32 rfl Tryz.underlying32 hi hz0 hz1 hz2 rfl (by omega) (by omega) _ Xr.heap.size 0 [] _ rfl (OwnM.lit0 _ _ _ _ (by simp)) 0 q (rowL L) _ rfl ((HRow.out.head hq cp).alloc _) (by omega) (by simp) ?_; intro ao1 cp1 w2 O2 G2)
          rw [Nat.zero_add, List.nil_append] at O2
          have D2 : Below Xr.heap.size Xr w2 := (below_alloc _ _).grown G2 (by simp) (fun r e => by cases e; exact Nat.le_refl _)
          have O2' : Hid (OwnM w2 Xr.heap.size 110 2 (.slice ao1 q cp1) q (nums (rowL L) (q * 2))) := O2
          clear O2 G2
          refine wp_region_held_drew (S := fun Y : World => Below Xr.heap.size Xr Y) (by kernel_rfl) D2.drew (fun hS => ?_)
          refine tkH 0 ?_ hS (fun wx hx => ?_) ?_; rotate_left
          · have hx0 := (hx.cell (p := ⟨wa.heap.size, 0, none⟩) hzr).trans HI.out.1.1.1; have hx1 := (hx.cell (p := ⟨wa.heap.size, 1, none⟩) hzr).trans HI.out.1.1.2; go_simp; try with_reducible rfl
          refine tkH 1 ?_ hS (fun wx hx => ?_) ?_; rotate_left
          · have hx0 := (hx.cell (p := ⟨wa.heap.size, 0, none⟩) hzr).trans HI.out.1.1.1; have hx1 := (hx.cell (p := ⟨wa.heap.size, 1, none⟩) hzr).trans HI.out.1.1.2; go_simp; try with_reducible rfl
          refine tkH 4 ?_ hS (fun wx hx => ?_) ?_; rotate_left
          · have hx0 := (hx.cell (p := ⟨wa.heap.size, 0, none⟩) hzr).trans HI.out.1.1.1; have hx1 := (hx.cell (p := ⟨wa.heap.size, 1, none⟩) hzr).trans HI.out.1.1.2; go_simp; try with_reducible rfl
          refine tkH 5 ?_ hS (fun wx hx => ?_) ?_; rotate_left
          · have hx0 := (hx.cell (p := ⟨wa.heap.size, 0, none⟩) hzr).trans HI.out.1.1.1; have hx1 := (hx.cell (p := ⟨wa.heap.size, 1, none⟩) hzr).trans HI.out.1.1.2; go_simp; try with_reducible rfl
          refine tkH 6 ?_ hS (fun wx hx => ?_) ?_; rotate_left
          · have hx0 := (hx.cell (p := ⟨wa.heap.size, 0, none⟩) hzr).trans HI.out.1.1.1; have hx1 := (hx.cell (p := ⟨wa.heap.size, 1, none⟩) hzr).trans HI.out.1.1.2; go_simp; try with_reducible rfl
          try simp only [Act.put, List.getElem_toArray, List.getElem_cons_zero, List.getElem_cons_succ, List.setIfInBounds_toArray, List.set_cons_succ, List.set_cons_zero]
          refine rdH 2 (fun K hK => ?_)
          go_simp
          have S3 : Below Xr.heap.size Xr (w2.drew.alloc (.cells #[.int .i64 k, .int .i64 c] 110)) := hS.alloc hS.size _
          have O3 : Hid (OwnM (w2.drew.alloc (.cells #[.int .i64 k, .int .i64 c] 110)) Xr.heap.size 110 2 (.slice ao1 q cp1) q (nums (rowL L) (q * 2))) := O2'.out.later (below_alloc w2 _).drew
          have R3 : Hid (Row (w2.drew.alloc (.cells #[.int .i64 k, .int .i64 c] 110)) 0 2 1 (fun p => [(k : Int), c].getD p 0) (.slice (some ⟨w2.heap.size, 0, none⟩) 1 1)) := row_litD w2.drew k c 110
          refine hK.out _ _ S3 (fun hS => ?_)
          clear hK K S3
          refine rdH 3 (fun K hK => ?_)
          refine step_app 110 i0 (.agg #[.int .i64 0, .int .i64 0]) 2 16 (by rfl) _ _ 32 (by rfl) Tryz.underlying32 hi hz0 hz1 hz2 rfl (by omega) (by omega) _ Xr.heap.size q (nums (rowL L) (q * 2)) (.slice ao1 q cp1) (by rfl) O3.out 0 1 (fun p => [(k : Int), c].getD p 0) (.slice (some ⟨w2.heap.size, 0, none⟩) 1 1) (by rfl) R3.out (by omega) hS.size ?_
          intro ao3 cp3 w4 O4 G4
          have S4 : Below Xr.heap.size Xr w4 := hS.grown G4 hS.size (fun r e => (O3.out.block r e).1)
          have O4' : Hid (OwnM w4 Xr.heap.size 110 2 (.slice ao3 (q + 1) cp3) (q + 1) (nums (rowL L) (q * 2) ++ [(k : Int), c])) := O4
          clear O4 G4 O3 R3 O2'
          refine hK.out _ _ S4 (fun hS => ?_)
          clear hK K S4
          refine rdH 7 (fun K hK => ?_)
          refine step_app 110 i0 (.agg #[.int .i64 0, .int .i64 0]) 2 16 (by rfl) _ _ 32 (by rfl) Tryz.underlying32 hi hz0 hz1 hz2 rfl (by omega) (by omega) _ Xr.heap.size (q + 1) (nums (rowL L) (q * 2) ++ [(k : Int), c]) (.slice ao3 (q + 1) cp3) (by rfl) O4'.out 0 (L.length - q) (fun p => rowL L (q * 2 + p)) (.slice (if cp = q then ao else Option.map (fun x => x.add (q * 2)) ao) (L.length - q) (cp - q)) (by rfl) (Row.over _ _ _ _ _ _ _ _ hlt2) (by omega) hS.size ?_
          intro ao5 cp5 w6 O6 G6
          have S6 : Below Xr.heap.size Xr w6 := hS.grown G6 hS.size (fun r e => (O4'.out.block r e).1)
          have HO6 : Hid (Own w6 w.heap.size 110 2 (donesL R (k + 1)).length (rowL (donesL R (k + 1))) (.slice ao5 (donesL R (k + 1)).length cp5)) := by
            have e1 : q + 1 + (L.length - q) = L.length + 1 := by omega
            rw [e1] at O6
            unfold Hid
            rw [HNX.out, putD_length]
            refine own_eqP ((OwnM.own O6 (by rw [List.length_append, List.length_append, nums_length, nums_length]; simp; omega)).mono HBX.out.size) (fun p hp => ?_)
            unfold putD
            rw [← HQ.out]
            exact rowL_insert hq hp
          have e8 : Hid (q + 1 + (L.length - q) = (donesL R (k + 1)).length) := by unfold Hid; rw [HNX.out, putD_length]; omega
          clear O6 G6 O4'
          refine hK.out _ _ S6 (fun hS => ?_)
          clear hK K S6
          refine tkH 8 ?_ hS (fun wx hx => ?_) ?_; rotate_left
          · have hx0 := (hx.cell (p := ⟨wa.heap.size, 0, none⟩) hzr).trans HI.out.1.1.1; have hx1 := (hx.cell (p := ⟨wa.heap.size, 1, none⟩) hzr).trans HI.out.1.1.2; go_simp; try with_reducible rfl
          refine wpAnyH_done (by kernel_rfl) ?_ _
          go_simp
          go_wp2
          all_goals
            go_roundw
            case rel => exact ⟨k + 1, ao5, cp5, by omega, by go_num, by rw [e8.out], HO6, HBX.out.trans (hS.mono HBX.out.size)⟩
            case measure => simp [intOf]; omega
end Go.Proofs.YtdbcmckoiacemaaGreat

namespace Go.Proofs.YtdbcmckoiacemaaGreat
open Go.RowKit

def sizeX (T : Nat → Tx) (i : Nat) : Nat := (T i).m
def SxAns (n : Nat) (T : Nat → Tx) (left r : Int) : Prop := r = -1 ∨ (0 ≤ r ∧ n ≤ 1048576 ∧ ((sumN (sizeX T) n : Nat) : Int) ≤ left ∧ ∀ i, i < n → (T i).m ≤ 1048576)
set_option maxRecDepth 100000 in
set_option maxHeartbeats 4000000 in
theorem szTxnS_any (n : Nat) (T : Nat → Tx) (V : Nat → Value) (v : Value) (B : Nat) (left : Int) (w : World) (h : Txs w B n T V v) (hn : n ≤ 9223372036854775807) (hs : ∀ i, i < n → (T i).m ≤ 9223372036854775807) (h0 : 0 ≤ left) (h2 : left ≤ 1048576) :
    Calls Tryz.prog 20 #[v, .int .i64 left] w fun e w' => ∃ r, e = .returned (.int .i64 r) ∧ SxAns n T left r ∧ Below w.heap.size w w' := by
  obtain ⟨ao, cp, rfl⟩ := h.form
  have H : Hid (Txs w B n T V (.slice ao n cp)) := h
  have HN : Hid (∀ i, i < n → (T i).m ≤ 9223372036854775807) := hs
  clear h hs
  by_cases hl : left < n
  · have d : decide (left - n < 0) = true := decide_eq_true (by omega)
    go_enter Tryz.func20, Tryz.ntmps20
    go_wp2
    go_ret
    exact ⟨-1, rfl, Or.inl rfl, Below.refl _ _⟩
  have d : decide (left - n < 0) = false := decide_eq_false (by omega)
  go_enter Tryz.func20, Tryz.ntmps20
  go_wp2
  go_loopw [1, 5] (fun j i wr => ∃ (k : Nat) (L : Int), k ≤ n ∧ j = .int .i64 L ∧ i = .int .i64 k ∧ Hid ((0 ≤ L ∧ L + (sumN (sizeX T) k : Nat) ≤ left) ∧ ∀ i, i < k → (T i).m ≤ 1048576) ∧ Hid (Below w.heap.size w wr)) (fun _ i _ => n - (intOf i).toNat)
  case atStart => exact ⟨0, left - n, Nat.zero_le _, rfl, rfl, ⟨by simp only [sumN]; omega, fun i hi => absurd hi (Nat.not_lt_zero i)⟩, Below.refl _ _⟩
  case round =>
    obtain ⟨k, L, hk, rfl, rfl, hL, hR⟩ := hrel
    by_cases hlt : k < n
    · obtain ⟨g, o, rfl, _, hg, ⟨c0, c1, c2, c3, c4, c5⟩, rk, _⟩ := H.out.at hlt
      have b0 := (hR.out.cell (p := ⟨g, o + k * 6, none⟩) hg).trans c0
      have b1 := (hR.out.cell (p := ⟨g, o + k * 6 + 1, none⟩) hg).trans c1
      have b2 := (hR.out.cell (p := ⟨g, o + k * 6 + 2, none⟩) hg).trans c2
      have b3 := (hR.out.cell (p := ⟨g, o + k * 6 + 3, none⟩) hg).trans c3
      have b4 := (hR.out.cell (p := ⟨g, o + k * 6 + 4, none⟩) hg).trans c4
      have b5 := (hR.out.cell (p := ⟨g, o + k * 6 + 5, none⟩) hg).trans c5
      obtain ⟨a1, d1, e1⟩ := rk.form
      rw [e1] at b5
      clear c0 c1 c2 c3 c4 c5 rk e1
      have hB : Hid ((T k).m ≤ 9223372036854775807) := HN.out k hlt
      obtain ⟨t0, ht⟩ : ∃ t, T k = t := ⟨_, rfl⟩
      have HK : Hid (T k = t0) := ht
      rw [ht] at b0 b1 b2 b3 b4 b5 hB
      obtain ⟨s', c', u', st', a', m', L'⟩ := t0
      clear ht
      by_cases hfit : (m' : Int) ≤ L
      · go_wp2_with fail
        refine (szTxn_ok _ _ _ _ _ _ _ _ _ _ hfit (by have := hL.out.1; omega)).mono ?_
        rintro e w1 ⟨rfl, q1⟩
        have HB : Hid (Below w.heap.size w w1) := hR.out.trans (q1.mono hR.out.size)
        have dd : decide (L - m' < 0) = false := decide_eq_false (by omega)
        clear q1 hR b0 b1 b2 b3 b4 b5
        go_wp2
        go_roundw
        case rel =>
          have hst : sumN (sizeX T) (k + 1) = sumN (sizeX T) k + m' := by show sumN (sizeX T) k + (T k).m = _; rw [HK.out]
          refine ⟨k + 1, L - m', by omega, by go_num, by go_num, ⟨by have := hL.out.1; rw [hst]; omega, fun i hi => ?_⟩, HB⟩
          by_cases q : i = k
          · subst q
            have h1 := hL.out.1
            rw [HK.out]
            show m' ≤ 1048576
            omega
          · exact hL.out.2 i (by omega)
        case measure => simp [intOf]; omega
      · go_wp2_with fail
        refine (szTxn_no _ _ _ _ _ _ _ _ _ _ (by omega) hL.out.1.1 (by have := hL.out.1; omega) hB.out).mono ?_
        rintro e w1 ⟨rfl, q1⟩
        have HB : Hid (Below w.heap.size w w1) := hR.out.trans (q1.mono hR.out.size)
        clear q1 hR b0 b1 b2 b3 b4 b5
        go_wp2
        go_ret
        exact ⟨-1, rfl, Or.inl rfl, HB.out⟩
    · obtain rfl : k = n := by omega
      go_wp2
      go_ret
      exact ⟨L, rfl, Or.inr ⟨hL.out.1.1, by omega, by have := hL.out.1; omega, hL.out.2⟩, hR.out⟩
/-- Two transactions at a place. -/
def Two6 (w : World) (g o g' o' k : Nat) (t : Tx) (u u' : Value) (x : World) : Prop :=
  Below w.heap.size w x ∧ (x.cell? ⟨g, o + k * 6, none⟩ = some (.int .i64 t.s) ∧ x.cell? ⟨g, o + k * 6 + 1, none⟩ = some (.int .i64 t.c) ∧ x.cell? ⟨g, o + k * 6 + 2, none⟩ = some (.int .i64 t.u) ∧ x.cell? ⟨g, o + k * 6 + 3, none⟩ = some (.int .i64 t.st) ∧ x.cell? ⟨g, o + k * 6 + 4, none⟩ = some (.int .i64 t.a) ∧ x.cell? ⟨g, o + k * 6 + 5, none⟩ = some u) ∧
    (x.cell? ⟨g', o' + k * 6, none⟩ = some (.int .i64 t.s) ∧ x.cell? ⟨g', o' + k * 6 + 1, none⟩ = some (.int .i64 t.c) ∧ x.cell? ⟨g', o' + k * 6 + 2, none⟩ = some (.int .i64 t.u) ∧ x.cell? ⟨g', o' + k * 6 + 3, none⟩ = some (.int .i64 t.st) ∧ x.cell? ⟨g', o' + k * 6 + 4, none⟩ = some (.int .i64 t.a) ∧ x.cell? ⟨g', o' + k * 6 + 5, none⟩ = some u') ∧ g < x.heap.size ∧ g' < x.heap.size
theorem Two6.later {w : World} {g o g' o' k : Nat} {t : Tx} {u u' : Value} {x x' : World} (h : Two6 w g o g' o' k t u u' x) (hb : Below x.heap.size x x') : Two6 w g o g' o' k t u u' x' := by
  obtain ⟨h0, ⟨a0, a1, a2, a3, a4, a5⟩, ⟨b0, b1, b2, b3, b4, b5⟩, hg, hg'⟩ := h
  have k1 : ∀ p, x'.cell? ⟨g, p, none⟩ = x.cell? ⟨g, p, none⟩ := fun p => hb.cell (p := ⟨g, p, none⟩) hg
  have k2 : ∀ p, x'.cell? ⟨g', p, none⟩ = x.cell? ⟨g', p, none⟩ := fun p => hb.cell (p := ⟨g', p, none⟩) hg'
  exact ⟨h0.trans (hb.mono h0.size), ⟨(k1 _).trans a0, (k1 _).trans a1, (k1 _).trans a2, (k1 _).trans a3, (k1 _).trans a4, (k1 _).trans a5⟩, ⟨(k2 _).trans b0, (k2 _).trans b1, (k2 _).trans b2, (k2 _).trans b3, (k2 _).trans b4, (k2 _).trans b5⟩, Nat.lt_of_lt_of_le hg hb.size, Nat.lt_of_lt_of_le hg' hb.size⟩
set_option maxRecDepth 100000 in
set_option maxHeartbeats 4000000 in
theorem eqTxnS_same (n : Nat) (T : Nat → Tx) (V U : Nat → Value) (va vb : Value) (Ba Bb : Nat) (w : World) (ha : Txs w Ba n T V va) (hb : Txs w Bb n T U vb) (hn : n ≤ 1048576) (hs : ∀ i, i < n → (T i).m ≤ 1048576) :
    Calls Tryz.prog 32 #[va, vb] w fun e w' => e = .returned (.bool true) ∧ Below w.heap.size w w' := by
  obtain ⟨ao, cp, rfl⟩ := ha.form
  obtain ⟨ao', cp', rfl⟩ := hb.form
  have H : Hid (Txs w Ba n T V (.slice ao n cp)) := ha
  have H' : Hid (Txs w Bb n T U (.slice ao' n cp')) := hb
  have HN : Hid (∀ i, i < n → (T i).m ≤ 1048576) := hs
  clear ha hb hs
  go_enter Tryz.func32, Tryz.ntmps32
  go_wp2
  go_loopw [5] (fun i wr => ∃ k : Nat, k ≤ n ∧ i = .int .i64 k ∧ Hid (Below w.heap.size w wr)) (fun i _ => n - (intOf i).toNat)
  case atStart => exact ⟨0, Nat.zero_le _, rfl, Below.refl _ _⟩
  case round =>
    obtain ⟨k, hk, rfl, hR⟩ := hrel
    by_cases hlt : k < n
    · obtain ⟨g, o, rfl, _, hg, hc, rk, _⟩ := (H.out.later hR.out).at hlt
      obtain ⟨g', o', rfl, _, hg', hc', rk', _⟩ := (H'.out.later hR.out).at hlt
      obtain ⟨a1, d1, e1⟩ := rk.form
      obtain ⟨a1', d1', e1'⟩ := rk'.form
      rw [e1] at hc rk
      rw [e1'] at hc' rk'
      have hN : Hid ((T k).m ≤ 1048576) := HN.out k hlt
      obtain ⟨t0, ht⟩ : ∃ t, T k = t := ⟨_, rfl⟩
      rw [ht] at hc hc' rk rk' hN
      have SK : Hid (Row wr Ba 3 t0.m t0.L (.slice a1 t0.m d1) ∧ Row wr Bb 3 t0.m t0.L (.slice a1' t0.m d1')) := ⟨rk, rk'⟩
      have TT : Hid (Two6 w g o g' o' k t0 (.slice a1 t0.m d1) (.slice a1' t0.m d1') wr) := ⟨hR.out, hc, hc', hg, hg'⟩
      obtain ⟨s', c', u', st', a', m', L'⟩ := t0
      clear ht rk rk' hc hc' hg hg' e1 e1'
      go_wp2_with fail
      refine wp_region_held_drew (S := Two6 w g o g' o' k ⟨s', c', u', st', a', m', L'⟩ (.slice a1 m' d1) (.slice a1' m' d1')) (by kernel_rfl) (TT.out.later (Below.drew (Below.refl _ _))) (fun hS => ?_)
      refine tkH 0 ?_ hS (fun wx hx => ?_) ?_; rotate_left
      · obtain ⟨_, ⟨hx0, hx1, hx2, hx3, hx4, hx5⟩, ⟨hy0, hy1, hy2, hy3, hy4, hy5⟩, _⟩ := hx; go_simp; try with_reducible rfl
      refine tkH 1 ?_ hS (fun wx hx => ?_) ?_; rotate_left
      · obtain ⟨_, ⟨hx0, hx1, hx2, hx3, hx4, hx5⟩, ⟨hy0, hy1, hy2, hy3, hy4, hy5⟩, _⟩ := hx; go_simp; try with_reducible rfl
      refine tkH 2 ?_ hS (fun wx hx => ?_) ?_; rotate_left
      · obtain ⟨_, ⟨hx0, hx1, hx2, hx3, hx4, hx5⟩, ⟨hy0, hy1, hy2, hy3, hy4, hy5⟩, _⟩ := hx; go_simp; try with_reducible rfl
      refine tkH 3 ?_ hS (fun wx hx => ?_) ?_; rotate_left
      · obtain ⟨_, ⟨hx0, hx1, hx2, hx3, hx4, hx5⟩, ⟨hy0, hy1, hy2, hy3, hy4, hy5⟩, _⟩ := hx; go_simp; try with_reducible rfl
      refine tkH 4 ?_ hS (fun wx hx => ?_) ?_; rotate_left
      · obtain ⟨_, ⟨hx0, hx1, hx2, hx3, hx4, hx5⟩, ⟨hy0, hy1, hy2, hy3, hy4, hy5⟩, _⟩ := hx; go_simp; try with_reducible rfl
      refine tkH 5 ?_ hS (fun wx hx => ?_) ?_; rotate_left
      · obtain ⟨_, ⟨hx0, hx1, hx2, hx3, hx4, hx5⟩, ⟨hy0, hy1, hy2, hy3, hy4, hy5⟩, _⟩ := hx; go_simp; try with_reducible rfl
      refine tkH 6 ?_ hS (fun wx hx => ?_) ?_; rotate_left
      · obtain ⟨_, ⟨hx0, hx1, hx2, hx3, hx4, hx5⟩, ⟨hy0, hy1, hy2, hy3, hy4, hy5⟩, _⟩ := hx; go_simp; try with_reducible rfl
      refine tkH 7 ?_ hS (fun wx hx => ?_) ?_; rotate_left
      · obtain ⟨_, ⟨hx0, hx1, hx2, hx3, hx4, hx5⟩, ⟨hy0, hy1, hy2, hy3, hy4, hy5⟩, _⟩ := hx; go_simp; try with_reducible rfl
      refine rdH 8 (fun K hK => ?_)
      go_simp
      go_wp2_with fail
      refine (eqTxn_same s' c' u' st' a' m' L' _ _ Ba Bb _ (SK.out.1.later (below_dr (Below.refl _ _) 1)) (SK.out.2.later (below_dr (Below.refl _ _) 1)) hN.out).mono ?_
      rintro e w1 ⟨rfl, q1⟩
      have hS' := hS.later q1
      clear q1
      go_wp2_with fail
      refine hK.out _ _ hS' (fun hS => ?_)
      clear hK K hS' TT
      refine tkH 9 ?_ hS (fun wx hx => ?_) ?_; rotate_left
      · obtain ⟨_, ⟨hx0, hx1, hx2, hx3, hx4, hx5⟩, ⟨hy0, hy1, hy2, hy3, hy4, hy5⟩, _⟩ := hx; go_simp; try with_reducible rfl
      refine wpAnyH_done (by kernel_rfl) ?_ _
      have HB : Hid (Below w.heap.size w w1) := hS.1
      clear hS hR SK
      go_simp
      go_wp2
      go_roundw
      case rel => exact ⟨k + 1, by omega, by go_num, HB⟩
      case measure => simp [intOf]; omega
    · obtain rfl : k = n := by omega
      go_wp2
      go_ret
      exact ⟨rfl, hR.out⟩
end Go.Proofs.YtdbcmckoiacemaaGreat

namespace Go.Proofs.YtdbcmckoiacemaaGreat
open Go.RowKit

theorem toOracle_any (a b : Int) (w : World) :
    Calls Tryz.prog 23 #[.agg #[.int .i64 a, .int .i64 b]] w fun e w' => e = .returned (.agg #[.int .i64 a, .int .i64 b]) ∧ Below w.heap.size w w' := by
  go_enter Tryz.func23, Tryz.ntmps23
  go_wp2
  exact bodyPost_ret (v := .agg #[.int .i64 a, .int .i64 b]) (by simp [results, Tryz.results23, go_sem]) rfl ⟨rfl, by repeat (first | exact Below.refl _ _ | refine Below.setCell ?_ (by first | omega | (simp <;> omega)) _ | refine Below.alloc ?_ (by first | omega | (simp <;> omega)) _)⟩
theorem eqOracle_same (a b : Int) (w : World) :
    Calls Tryz.prog 30 #[.agg #[.int .i64 a, .int .i64 b], .agg #[.int .i64 a, .int .i64 b]] w fun e w' => e = .returned (.bool true) ∧ w' = (w.alloc (.cells #[.int .i64 a, .int .i64 b] 36)).alloc (.cells #[.int .i64 a, .int .i64 b] 36) := by
  go_enter Tryz.func30, Tryz.ntmps30
  go_wp2
  go_ret
  exact ⟨rfl, rfl⟩
end Go.Proofs.YtdbcmckoiacemaaGreat

namespace Go.Proofs.YtdbcmckoiacemaaGreat
open Go.RowKit

theorem setCell_otherE {x : World} {b i j : Nat} {u v : Value} (hn : i ≠ j) (h : x.cell? ⟨b, i, none⟩ = some u) : (x.setCell ⟨b, j, none⟩ v).cell? ⟨b, i, none⟩ = some u := (World.cell?_setCell_other _ _ _ _ (fun e => hn (congrArg Addr.off e).symm)).trans h
theorem Blk6.put0 {x : World} {b : Nat} {a0 a1 a2 a3 a4 a5 : Value} (h : Blk6 x b a0 a1 a2 a3 a4 a5) (c0 : Value) : Blk6 (x.setCell ⟨b, 0, none⟩ c0) b c0 a1 a2 a3 a4 a5 := by
  obtain ⟨⟨h0, h1, h2, h3, h4, h5⟩, f0, f1, f2, f3, f4, f5⟩ := h
  refine ⟨⟨?_, ?_, ?_, ?_, ?_, ?_⟩, by simpa using f0, by simpa using f1, by simpa using f2, by simpa using f3, by simpa using f4, by simpa using f5⟩
  · exact World.cell?_setCell_same _ _ _ h0
  · exact setCell_otherE (by decide) h1
  · exact setCell_otherE (by decide) h2
  · exact setCell_otherE (by decide) h3
  · exact setCell_otherE (by decide) h4
  · exact setCell_otherE (by decide) h5
theorem Blk6.put12 {x : World} {b : Nat} {a0 a1 a2 a3 a4 a5 : Value} (h : Blk6 x b a0 a1 a2 a3 a4 a5) (c1 c2 : Value) : Blk6 ((x.setCell ⟨b, 1, none⟩ c1).setCell ⟨b, 2, none⟩ c2) b a0 c1 c2 a3 a4 a5 := by
  obtain ⟨⟨h0, h1, h2, h3, h4, h5⟩, f0, f1, f2, f3, f4, f5⟩ := h
  refine ⟨⟨?_, ?_, ?_, ?_, ?_, ?_⟩, by simpa using f0, by simpa using f1, by simpa using f2, by simpa using f3, by simpa using f4, by simpa using f5⟩
  · exact setCell_otherE (by decide) (setCell_otherE (by decide) h0)
  · exact setCell_otherE (by decide) (World.cell?_setCell_same _ _ _ h1)
  · exact World.cell?_setCell_same _ _ _ (setCell_otherE (by decide) h2)
  · exact setCell_otherE (by decide) (setCell_otherE (by decide) h3)
  · exact setCell_otherE (by decide) (setCell_otherE (by decide) h4)
  · exact setCell_otherE (by decide) (setCell_otherE (by decide) h5)
theorem Blk6.put34 {x : World} {b : Nat} {a0 a1 a2 a3 a4 a5 : Value} (h : Blk6 x b a0 a1 a2 a3 a4 a5) (c3 c4 : Value) : Blk6 ((x.setCell ⟨b, 3, none⟩ c3).setCell ⟨b, 4, none⟩ c4) b a0 a1 a2 c3 c4 a5 := by
  obtain ⟨⟨h0, h1, h2, h3, h4, h5⟩, f0, f1, f2, f3, f4, f5⟩ := h
  refine ⟨⟨?_, ?_, ?_, ?_, ?_, ?_⟩, by simpa using f0, by simpa using f1, by simpa using f2, by simpa using f3, by simpa using f4, by simpa using f5⟩
  · exact setCell_otherE (by decide) (setCell_otherE (by decide) h0)
  · exact setCell_otherE (by decide) (setCell_otherE (by decide) h1)
  · exact setCell_otherE (by decide) (setCell_otherE (by decide) h2)
  · exact setCell_otherE (by decide) (World.cell?_setCell_same _ _ _ h3)
  · exact World.cell?_setCell_same _ _ _ (setCell_otherE (by decide) h4)
  · exact setCell_otherE (by decide) (setCell_otherE (by decide) h5)
theorem Blk6.putAll {x : World} {b : Nat} {a0 a1 a2 a3 a4 a5 : Value} (h : Blk6 x b a0 a1 a2 a3 a4 a5) (c0 c1 c2 c3 c4 c5 : Value) : Blk6 ((((((x.setCell ⟨b, 0, none⟩ c0).setCell ⟨b, 1, none⟩ c1).setCell ⟨b, 2, none⟩ c2).setCell ⟨b, 3, none⟩ c3).setCell ⟨b, 4, none⟩ c4).setCell ⟨b, 5, none⟩ c5) b c0 c1 c2 c3 c4 c5 := by
  obtain ⟨⟨h0, h1, h2, h3, h4, h5⟩, f0, f1, f2, f3, f4, f5⟩ := h
  refine ⟨⟨?_, ?_, ?_, ?_, ?_, ?_⟩, by simpa using f0, by simpa using f1, by simpa using f2, by simpa using f3, by simpa using f4, by simpa using f5⟩
  · exact setCell_otherE (by decide) (setCell_otherE (by decide) (setCell_otherE (by decide) (setCell_otherE (by decide) (setCell_otherE (by decide) (World.cell?_setCell_same _ _ _ h0)))))
  · exact setCell_otherE (by decide) (setCell_otherE (by decide) (setCell_otherE (by decide) (setCell_otherE (by decide) (World.cell?_setCell_same _ _ _ (setCell_otherE (by decide) h1)))))
  · exact setCell_otherE (by decide) (setCell_otherE (by decide) (setCell_otherE (by decide) (World.cell?_setCell_same _ _ _ (setCell_otherE (by decide) (setCell_otherE (by decide) h2)))))
  · exact setCell_otherE (by decide) (setCell_otherE (by decide) (World.cell?_setCell_same _ _ _ (setCell_otherE (by decide) (setCell_otherE (by decide) (setCell_otherE (by decide) h3)))))
  · exact setCell_otherE (by decide) (World.cell?_setCell_same _ _ _ (setCell_otherE (by decide) (setCell_otherE (by decide) (setCell_otherE (by decide) (setCell_otherE (by decide) h4)))))
  · exact World.cell?_setCell_same _ _ _ (setCell_otherE (by decide) (setCell_otherE (by decide) (setCell_otherE (by decide) (setCell_otherE (by decide) (setCell_otherE (by decide) h5)))))

theorem Blk6.farE {x : World} {b : Nat} {a0 a1 a2 a3 a4 a5 : Value} (h : Blk6 x b a0 a1 a2 a3 a4 a5) {p : Addr} (hp : b ≠ p.block) (u : Value) : Blk6 (x.setCell p u) b a0 a1 a2 a3 a4 a5 := h.kept (Below.heap_setCell x p u b hp)
set_option maxRecDepth 100000 in
set_option maxHeartbeats 4000000 in
theorem eqWorldT_same (nw nx bd : Int) (nr : Nat) (F : Nat → Int) (n : Nat) (S : Nat → Sto) (V U : Nat → Nat → Value) (ra : Option Addr) (rc : Nat) (sa : Option Addr) (sc : Nat) (qa : Option Addr) (qc : Nat) (pa : Option Addr) (pc : Nat) (nt : Nat) (T : Nat → Tx) (X Y : Nat → Value) (ta : Option Addr) (tc : Nat) (ya : Option Addr) (yc : Nat) (B B' : Nat) (w : World) (h : Grs w B nr F n S V (.slice ra nr rc) (.slice sa n sc)) (h' : Grs w B' nr F n S U (.slice qa nr qc) (.slice pa n pc)) (ht : Txs w B nt T X (.slice ta nt tc)) (ht' : Txs w B' nt T Y (.slice ya nt yc)) (hs : nr ≤ 1048576 ∧ n ≤ 1048576 ∧ ∀ i, i < n → SmallS (S i)) (hx : nt ≤ 1048576 ∧ ∀ i, i < nt → (T i).m ≤ 1048576) :
    Calls Tryz.prog 10 #[.agg #[.int .i64 nw, .int .i64 nx, .int .i64 bd, .slice ra nr rc, .slice sa n sc, .slice ta nt tc], .agg #[.int .i64 nw, .int .i64 nx, .int .i64 bd, .slice qa nr qc, .slice pa n pc, .slice ya nt yc]] w fun e w' => e = .returned (.bool true) ∧ Below w.heap.size w w' := by
  have H : Hid (Grs w B nr F n S V (.slice ra nr rc) (.slice sa n sc) ∧ Grs w B' nr F n S U (.slice qa nr qc) (.slice pa n pc)) := ⟨h, h'⟩
  have HX : Hid (Txs w B nt T X (.slice ta nt tc) ∧ Txs w B' nt T Y (.slice ya nt yc)) := ⟨ht, ht'⟩
  have HN : Hid ((nr ≤ 1048576 ∧ n ≤ 1048576 ∧ ∀ i, i < n → SmallS (S i)) ∧ (nt ≤ 1048576 ∧ ∀ i, i < nt → (T i).m ≤ 1048576)) := ⟨hs, hx⟩
  clear h h' hs ht ht' hx
  go_enter Tryz.func10, Tryz.ntmps10
  go_wp2_with fail
  refine (eqOracle_same nx bd _).mono ?_
  rintro e w1 ⟨rfl, hw1⟩
  have q1 : Below w.heap.size w w1 := by
    rw [hw1]
    exact ((((Below.refl w.heap.size w).alloc (Nat.le_refl _) _).alloc (by simp) _).alloc (by simp; omega) _).alloc (by simp; omega) _
  have B0 : Hid (Blk6 w1 w.heap.size (.int .i64 nw) (.int .i64 nx) (.int .i64 bd) (.slice ra nr rc) (.slice sa n sc) (.slice ta nt tc) ∧ Blk6 w1 (w.heap.size + 1) (.int .i64 nw) (.int .i64 nx) (.int .i64 bd) (.slice qa nr qc) (.slice pa n pc) (.slice ya nt yc)) := by
    have k := Blk6.new w (.int .i64 nw) (.int .i64 nx) (.int .i64 bd) (.slice ra nr rc) (.slice sa n sc) (.slice ta nt tc) 43
    have k' := Blk6.new (w.alloc (.cells #[.int .i64 nw, .int .i64 nx, .int .i64 bd, .slice ra nr rc, .slice sa n sc, .slice ta nt tc] 43)) (.int .i64 nw) (.int .i64 nx) (.int .i64 bd) (.slice qa nr qc) (.slice pa n pc) (.slice ya nt yc) 43
    rw [World.size_alloc] at k'
    rw [hw1]
    exact ⟨((k.later (below_alloc _ _)).later (below_alloc _ _)).later (below_alloc _ _), (k'.later (below_alloc _ _)).later (below_alloc _ _)⟩
  have Q1 : Hid (Below w.heap.size w w1) := q1
  clear hw1 q1
  obtain ⟨⟨⟨s0, s1, s2, s3, s4, s5⟩, _⟩, ⟨t0, t1, t2, t3, t4, t5⟩, _⟩ := B0.out
  go_wp2_with fail
  refine (eqGroups_same nr F n S V U _ _ _ _ B B' _ (H.out.1.later Q1.out) (H.out.2.later Q1.out) HN.out.1.1 HN.out.1.2.1 HN.out.1.2.2).mono ?_
  rintro e w2 ⟨rfl, q2⟩
  have Q : Hid (Below w.heap.size w w2) := Q1.out.trans (q2.mono Q1.out.size)
  have B2 : Hid (Blk6 w2 w.heap.size (.int .i64 nw) (.int .i64 nx) (.int .i64 bd) (.slice ra nr rc) (.slice sa n sc) (.slice ta nt tc) ∧ Blk6 w2 (w.heap.size + 1) (.int .i64 nw) (.int .i64 nx) (.int .i64 bd) (.slice qa nr qc) (.slice pa n pc) (.slice ya nt yc)) := ⟨B0.out.1.later q2, B0.out.2.later q2⟩
  clear s0 s1 s2 s3 s4 s5 t0 t1 t2 t3 t4 t5 q2 Q1 B0
  obtain ⟨⟨⟨s0, s1, s2, s3, s4, s5⟩, _⟩, ⟨t0, t1, t2, t3, t4, t5⟩, _⟩ := B2.out
  go_wp2_with fail
  refine (eqTxnS_same nt T X Y _ _ B B' _ (HX.out.1.later Q.out) (HX.out.2.later Q.out) HN.out.2.1 HN.out.2.2).mono ?_
  rintro e w3 ⟨rfl, q3⟩
  have Q3 : Hid (Below w.heap.size w w3) := Q.out.trans (q3.mono Q.out.size)
  clear q3 Q s0 s1 s2 s3 s4 s5 t0 t1 t2 t3 t4 t5 B2
  go_wp2
  go_ret
  exact ⟨rfl, Q3.out⟩
/-- A world that a call has laid: groups and transactions, each in blocks of its own. -/
def NewWd (w : World) (nw nx bd : Int) (nr : Nat) (F : Nat → Int) (n : Nat) (S : Nat → Sto) (nt : Nat) (T : Nat → Tx) (e : Ending) (w' : World) : Prop :=
  ∃ ra rc g U z gt Y zt, e = .returned (.agg #[.int .i64 nw, .int .i64 nx, .int .i64 bd, .slice ra nr rc, .slice (some ⟨g, 0, none⟩) n n, .slice (some ⟨gt, 0, none⟩) nt nt]) ∧ FineG w' w.heap.size nr F n S ra rc g U z ∧ (z n ≤ gt ∧ gt < w'.heap.size ∧ FillT w' gt nt nt T Y ∧ FineT w' zt nt T Y ∧ zt 0 = gt + 1 ∧ (∀ i, i ≤ nt → gt < zt i) ∧ zt nt ≤ w'.heap.size) ∧ Below w.heap.size w w'
end Go.Proofs.YtdbcmckoiacemaaGreat

namespace Go.Proofs.YtdbcmckoiacemaaGreat
open Go.RowKit

/-- The three blocks of toWorld: the box, the answer, what is laid. -/
def ToW (w : World) (v0 v1 v2 v3 v4 v5 u0 u1 u2 u3 u4 u5 : Value) (x : World) : Prop :=
  Below w.heap.size w x ∧ Blk6 x w.heap.size v0 v1 v2 v3 v4 v5 ∧ Blk6 x (w.heap.size + 1) (.int .i64 0) (.int .i64 0) (.int .i64 0) (.slice none 0 0) (.slice none 0 0) (.slice none 0 0) ∧ Blk6 x (w.heap.size + 2) u0 u1 u2 u3 u4 u5
theorem ToW.later {w : World} {v0 v1 v2 v3 v4 v5 u0 u1 u2 u3 u4 u5 : Value} {x x' : World} (h : ToW w v0 v1 v2 v3 v4 v5 u0 u1 u2 u3 u4 u5 x) (hb : Below x.heap.size x x') : ToW w v0 v1 v2 v3 v4 v5 u0 u1 u2 u3 u4 u5 x' :=
  ⟨h.1.trans (hb.mono h.1.size), h.2.1.later hb, h.2.2.1.later hb, h.2.2.2.later hb⟩
theorem hid_mkE {p : Prop} (h : p) : Hid p := h
theorem size_set (x : World) (a : Addr) (u : Value) : (x.setCell a u).heap.size = x.heap.size := by simp [World.setCell]
theorem FineG.farE {w : World} {lo nr : Nat} {F : Nat → Int} {n : Nat} {S : Nat → Sto} {ra : Option Addr} {rc g : Nat} {U : Nat → Nat → Value} {z : Nat → Nat} (h : FineG w lo nr F n S ra rc g U z) {b j : Nat} (hb : b < lo) (u : Value) : FineG (w.setCell ⟨b, j, none⟩ u) lo nr F n S ra rc g U z := by
  obtain ⟨⟨h1, h2, h3⟩, h4, h5, h6, h7, h8, h9⟩ := h
  exact ⟨⟨h1.far (Or.inl (by show b < lo; exact hb)) _, h2.far _ _, h3⟩, h4, h5.far (by show g ≠ b; omega) _, h6.far (fun i hi => by show b < z i; have := h8 i (by omega); omega) _, h7, h8, by rw [size_set]; exact h9⟩
theorem FineG.monoE {w : World} {lo lo' nr : Nat} {F : Nat → Int} {n : Nat} {S : Nat → Sto} {ra : Option Addr} {rc g : Nat} {U : Nat → Nat → Value} {z : Nat → Nat} (h : FineG w lo nr F n S ra rc g U z) (hl : lo' ≤ lo) : FineG w lo' nr F n S ra rc g U z :=
  ⟨⟨h.1.1.mono hl, h.1.2⟩, Nat.le_trans hl h.2.1, h.2.2⟩
theorem FillT.farE {w : World} {g n k : Nat} {T : Nat → Tx} {U : Nat → Value} (h : FillT w g n k T U) {b j : Nat} (hb : g ≠ b) (u : Value) : FillT (w.setCell ⟨b, j, none⟩ u) g n k T U := by
  have hk : ∀ p, (w.setCell ⟨b, j, none⟩ u).cell? ⟨g, p, none⟩ = w.cell? ⟨g, p, none⟩ := fun p => World.cell?_of_block (w := w) (a := ⟨g, p, none⟩) (Below.heap_setCell w ⟨b, j, none⟩ u g hb)
  refine ⟨by rw [size_set]; exact h.1, fun p hp => ⟨⟨?_, by simp only [World.frozen?_setCell]; exact (h.2 p hp).1.2⟩, fun d => (hk p).trans ((h.2 p hp).2 d)⟩⟩
  obtain ⟨v, hv⟩ := (h.2 p hp).1.1
  exact ⟨v, (hk p).trans hv⟩
set_option maxRecDepth 100000 in
set_option maxHeartbeats 4000000 in
theorem toWorld_any (nw nx bd : Int) (nr : Nat) (F : Nat → Int) (n : Nat) (S : Nat → Sto) (V : Nat → Nat → Value) (vr vs : Value) (nt : Nat) (T : Nat → Tx) (X : Nat → Value) (vt : Value) (B : Nat) (w : World) (h : Grs w B nr F n S V vr vs) (ht : Txs w B nt T X vt) (hs : nr ≤ 1048576 ∧ n ≤ 1048576 ∧ ∀ i, i < n → SmallS (S i)) (hx : nt ≤ 1048576 ∧ ∀ i, i < nt → (T i).m ≤ 1048576) :
    Calls Tryz.prog 7 #[.agg #[.int .i64 nw, .int .i64 nx, .int .i64 bd, vr, vs, vt]] w (NewWd w nw nx bd nr F n S nt T) := by
  obtain ⟨a0, c0, a1, c1, rfl, rfl⟩ := h.form
  obtain ⟨at', ct, rfl⟩ := ht.form
  have H : Hid (Grs w B nr F n S V (.slice a0 nr c0) (.slice a1 n c1) ∧ Txs w B nt T X (.slice at' nt ct)) := ⟨h, ht⟩
  have HN : Hid ((nr ≤ 1048576 ∧ n ≤ 1048576 ∧ ∀ i, i < n → SmallS (S i)) ∧ nt ≤ 1048576 ∧ ∀ i, i < nt → (T i).m ≤ 1048576) := ⟨hs, hx⟩
  have W0 : Hid (ToW w (.int .i64 nw) (.int .i64 nx) (.int .i64 bd) (.slice a0 nr c0) (.slice a1 n c1) (.slice at' nt ct) (.int .i64 nw) (.int .i64 0) (.int .i64 0) (.slice none 0 0) (.slice none 0 0) (.slice none 0 0) (((w.alloc (.cells #[.int .i64 nw, .int .i64 nx, .int .i64 bd, .slice a0 nr c0, .slice a1 n c1, .slice at' nt ct] 30)).alloc (.cells #[.int .i64 0, .int .i64 0, .int .i64 0, .slice none 0 0, .slice none 0 0, .slice none 0 0] 43)).alloc (.cells #[.int .i64 nw, .int .i64 0, .int .i64 0, .slice none 0 0, .slice none 0 0, .slice none 0 0] 43))) := by
    have k1 := Blk6.new (w.alloc (.cells #[.int .i64 nw, .int .i64 nx, .int .i64 bd, .slice a0 nr c0, .slice a1 n c1, .slice at' nt ct] 30)) (.int .i64 0) (.int .i64 0) (.int .i64 0) (.slice none 0 0) (.slice none 0 0) (.slice none 0 0) 43
    have k2 := Blk6.new ((w.alloc (.cells #[.int .i64 nw, .int .i64 nx, .int .i64 bd, .slice a0 nr c0, .slice a1 n c1, .slice at' nt ct] 30)).alloc (.cells #[.int .i64 0, .int .i64 0, .int .i64 0, .slice none 0 0, .slice none 0 0, .slice none 0 0] 43)) (.int .i64 nw) (.int .i64 0) (.int .i64 0) (.slice none 0 0) (.slice none 0 0) (.slice none 0 0) 43
    rw [World.size_alloc] at k1
    rw [World.size_alloc, World.size_alloc] at k2
    exact ⟨((below_alloc _ _).alloc (by simp) _).alloc (by simp; omega) _, ((Blk6.new w _ _ _ _ _ _ _).alloc _).alloc _, k1.alloc _, k2⟩
  clear h ht hs hx
  go_enter Tryz.func7, Tryz.ntmps7
  go_wp2_with fail
  generalize ((w.alloc (.cells #[.int .i64 nw, .int .i64 nx, .int .i64 bd, .slice a0 nr c0, .slice a1 n c1, .slice at' nt ct] 30)).alloc (.cells #[.int .i64 0, .int .i64 0, .int .i64 0, .slice none 0 0, .slice none 0 0, .slice none 0 0] 43)).alloc (.cells #[.int .i64 nw, .int .i64 0, .int .i64 0, .slice none 0 0, .slice none 0 0, .slice none 0 0] 43) = x0 at W0 ⊢
  refine (toOracle_any nx bd _).mono ?_
  rintro e y1 ⟨rfl, q1⟩
  have W1 : Hid (ToW w (.int .i64 nw) (.int .i64 nx) (.int .i64 bd) (.slice a0 nr c0) (.slice a1 n c1) (.slice at' nt ct) (.int .i64 nw) (.int .i64 0) (.int .i64 0) (.slice none 0 0) (.slice none 0 0) (.slice none 0 0) y1) := W0.out.later q1
  have W1' : Hid (ToW w (.int .i64 nw) (.int .i64 nx) (.int .i64 bd) (.slice a0 nr c0) (.slice a1 n c1) (.slice at' nt ct) (.int .i64 nw) (.int .i64 nx) (.int .i64 bd) (.slice none 0 0) (.slice none 0 0) (.slice none 0 0) ((y1.setCell ⟨w.heap.size + 2, 1, none⟩ (.int .i64 nx)).setCell ⟨w.heap.size + 2, 2, none⟩ (.int .i64 bd))) := ⟨(W1.out.1.setCell (by show w.heap.size ≤ w.heap.size + 2; omega) _).setCell (by show w.heap.size ≤ w.heap.size + 2; omega) _, (W1.out.2.1.farE (by show w.heap.size ≠ w.heap.size + 2; omega) _).farE (by show w.heap.size ≠ w.heap.size + 2; omega) _, (W1.out.2.2.1.farE (by show w.heap.size + 1 ≠ w.heap.size + 2; omega) _).farE (by show w.heap.size + 1 ≠ w.heap.size + 2; omega) _, W1.out.2.2.2.put12 _ _⟩
  obtain ⟨_, ⟨⟨b0, b1, b2, b3, b4, b5⟩, _⟩, _, ⟨⟨o0, o1, o2, o3, o4, o5⟩, p0, p1, p2, p3, p4, p5⟩⟩ := W1.out
  clear q1 W0
  go_wp2_with fail
  clear b0 b1 b2 b3 b4 b5 o0 o1 o2 o3 o4 o5 p0 p1 p2 p3 p4 p5 W1
  generalize (y1.setCell ⟨w.heap.size + 2, 1, none⟩ (.int .i64 nx)).setCell ⟨w.heap.size + 2, 2, none⟩ (.int .i64 bd) = x1 at W1' ⊢
  refine (toGroups_any nr F n S V _ _ B _ (H.out.1.later W1'.out.1) HN.out.1.1 HN.out.1.2.1 HN.out.1.2.2).mono ?_
  rintro e y2 ⟨ra, rc, g, U, z, rfl, hg, q2⟩
  have W2 : Hid (ToW w (.int .i64 nw) (.int .i64 nx) (.int .i64 bd) (.slice a0 nr c0) (.slice a1 n c1) (.slice at' nt ct) (.int .i64 nw) (.int .i64 nx) (.int .i64 bd) (.slice none 0 0) (.slice none 0 0) (.slice none 0 0) y2) := W1'.out.later q2
  have lo : Hid (w.heap.size + 3 ≤ x1.heap.size) := W1'.out.2.2.2.lt
  have W2' : Hid (ToW w (.int .i64 nw) (.int .i64 nx) (.int .i64 bd) (.slice a0 nr c0) (.slice a1 n c1) (.slice at' nt ct) (.int .i64 nw) (.int .i64 nx) (.int .i64 bd) (.slice ra nr rc) (.slice (some ⟨g, 0, none⟩) n n) (.slice none 0 0) ((y2.setCell ⟨w.heap.size + 2, 3, none⟩ (.slice ra nr rc)).setCell ⟨w.heap.size + 2, 4, none⟩ (.slice (some ⟨g, 0, none⟩) n n))) := ⟨(W2.out.1.setCell (by show w.heap.size ≤ w.heap.size + 2; omega) _).setCell (by show w.heap.size ≤ w.heap.size + 2; omega) _, (W2.out.2.1.farE (by show w.heap.size ≠ w.heap.size + 2; omega) _).farE (by show w.heap.size ≠ w.heap.size + 2; omega) _, (W2.out.2.2.1.farE (by show w.heap.size + 1 ≠ w.heap.size + 2; omega) _).farE (by show w.heap.size + 1 ≠ w.heap.size + 2; omega) _, W2.out.2.2.2.put34 _ _⟩
  have G2 : Hid (FineG ((y2.setCell ⟨w.heap.size + 2, 3, none⟩ (.slice ra nr rc)).setCell ⟨w.heap.size + 2, 4, none⟩ (.slice (some ⟨g, 0, none⟩) n n)) x1.heap.size nr F n S ra rc g U z) := (hg.farE (by have := lo.out; omega) _).farE (by have := lo.out; omega) _
  obtain ⟨_, ⟨⟨b0, b1, b2, b3, b4, b5⟩, _⟩, _, ⟨⟨o0, o1, o2, o3, o4, o5⟩, p0, p1, p2, p3, p4, p5⟩⟩ := W2.out
  clear q2 hg W1'
  go_wp2_with fail
  clear b0 b1 b2 b3 b4 b5 o0 o1 o2 o3 o4 o5 p0 p1 p2 p3 p4 p5 W2
  generalize (y2.setCell ⟨w.heap.size + 2, 3, none⟩ (.slice ra nr rc)).setCell ⟨w.heap.size + 2, 4, none⟩ (.slice (some ⟨g, 0, none⟩) n n) = x2 at W2' G2 ⊢
  refine (toTxnS_any nt T X _ B _ (H.out.2.later W2'.out.1) HN.out.2.1 HN.out.2.2).mono ?_
  rintro e y3 ⟨gt, Y, zt, rfl, hgt, FT, ⟨fine, ft0, ft1, ft2⟩, q3⟩
  have W3 : Hid (ToW w (.int .i64 nw) (.int .i64 nx) (.int .i64 bd) (.slice a0 nr c0) (.slice a1 n c1) (.slice at' nt ct) (.int .i64 nw) (.int .i64 nx) (.int .i64 bd) (.slice ra nr rc) (.slice (some ⟨g, 0, none⟩) n n) (.slice none 0 0) y3) := W2'.out.later q3
  have G3 : Hid (FineG y3 x1.heap.size nr F n S ra rc g U z ∧ z n ≤ gt) := ⟨G2.out.later q3, Nat.le_trans G2.out.2.2.2.2.2.2 hgt.1⟩
  have TT : Hid ((gt < y3.heap.size ∧ FillT y3 gt nt nt T Y ∧ FineT y3 zt nt T Y ∧ zt 0 = gt + 1 ∧ (∀ i, i ≤ nt → gt < zt i) ∧ zt nt ≤ y3.heap.size) ∧ x1.heap.size ≤ gt) := ⟨⟨hgt.2, FT, fine, ft0, ft1, ft2⟩, by have := G2.out.2.1; have := G2.out.2.2.2.2.2.1 n (Nat.le_refl _); have := G3.out.2; omega⟩
  have KL := hid_mkE ((W3.out.2.2.1.farE (p := ⟨w.heap.size + 2, 5, none⟩) (by show w.heap.size + 1 ≠ w.heap.size + 2; omega) (.slice (some ⟨gt, 0, none⟩) nt nt)).putAll (.int .i64 nw) (.int .i64 nx) (.int .i64 bd) (.slice ra nr rc) (.slice (some ⟨g, 0, none⟩) n n) (.slice (some ⟨gt, 0, none⟩) nt nt))
  obtain ⟨_, _, ⟨⟨d0, d1, d2, d3, d4, d5⟩, e0, e1, e2, e3, e4, e5⟩, ⟨⟨o0, o1, o2, o3, o4, o5⟩, p0, p1, p2, p3, p4, p5⟩⟩ := W3.out
  clear q3 FT fine ft0 ft1 ft2 hgt W2' G2
  go_wp2
  obtain ⟨⟨k0, k1, k2, k3, k4, k5⟩, _⟩ := KL.out
  have hlo := lo.out
  have htl := TT.out.2
  refine bodyPost_ret (v := .agg #[.int .i64 nw, .int .i64 nx, .int .i64 bd, .slice ra nr rc, .slice (some ⟨g, 0, none⟩) n n, .slice (some ⟨gt, 0, none⟩) nt nt]) (by simp [results, Tryz.results7, go_sem, k0, k1, k2, k3, k4, k5]) rfl ⟨ra, rc, g, U, z, gt, Y, zt, rfl, ?_, ?_, ?_⟩
  · have s : ∀ {y : World} (b j : Nat) (u : Value), b < x1.heap.size → FineG y x1.heap.size nr F n S ra rc g U z → FineG (y.setCell ⟨b, j, none⟩ u) x1.heap.size nr F n S ra rc g U z := fun b j u hb q => q.farE hb u
    exact FineG.monoE (s _ _ _ (by omega) (s _ _ _ (by omega) (s _ _ _ (by omega) (s _ _ _ (by omega) (s _ _ _ (by omega) (s _ _ _ (by omega) (s _ _ _ (by omega) G3.out.1))))))) (by omega)
  · have s : ∀ {y : World} (b j : Nat) (u : Value), b < x1.heap.size → (gt < y.heap.size ∧ FillT y gt nt nt T Y ∧ FineT y zt nt T Y ∧ zt 0 = gt + 1 ∧ (∀ i, i ≤ nt → gt < zt i) ∧ zt nt ≤ y.heap.size) → (gt < (y.setCell ⟨b, j, none⟩ u).heap.size ∧ FillT (y.setCell ⟨b, j, none⟩ u) gt nt nt T Y ∧ FineT (y.setCell ⟨b, j, none⟩ u) zt nt T Y ∧ zt 0 = gt + 1 ∧ (∀ i, i ≤ nt → gt < zt i) ∧ zt nt ≤ (y.setCell ⟨b, j, none⟩ u).heap.size) := fun b j u hb q => ⟨by rw [size_set]; exact q.1, q.2.1.farE (by omega) _, q.2.2.1.far (fun i hi => by show b < zt i; have := q.2.2.2.2.1 i (by omega); omega) _, q.2.2.2.1, q.2.2.2.2.1, by rw [size_set]; exact q.2.2.2.2.2⟩
    exact ⟨G3.out.2, s _ _ _ (by omega) (s _ _ _ (by omega) (s _ _ _ (by omega) (s _ _ _ (by omega) (s _ _ _ (by omega) (s _ _ _ (by omega) (s _ _ _ (by omega) TT.out.1))))))⟩
  · have s : ∀ {y : World} (b j : Nat) (u : Value), w.heap.size ≤ b → Below w.heap.size w y → Below w.heap.size w (y.setCell ⟨b, j, none⟩ u) := fun b j u hb q => q.setCell (by show w.heap.size ≤ b; exact hb) u
    exact s _ _ _ (by omega) (s _ _ _ (by omega) (s _ _ _ (by omega) (s _ _ _ (by omega) (s _ _ _ (by omega) (s _ _ _ (by omega) (s _ _ _ (by omega) W3.out.1))))))
end Go.Proofs.YtdbcmckoiacemaaGreat

namespace Go.Proofs.YtdbcmckoiacemaaGreat
open Go.RowKit

set_option maxRecDepth 100000 in
set_option maxHeartbeats 4000000 in
theorem szStoreS_lim (n : Nat) (S : Nat → Sto) (V : Nat → Nat → Value) (v : Value) (B : Nat) (left : Int) (w : World) (h : Stos w B n S V v) (hn : n ≤ 9223372036854775807) (hs : ∀ i, i < n → BigS (S i)) (h0 : 0 ≤ left) (h2 : left ≤ 1048576) :
    Calls Tryz.prog 44 #[v, .int .i64 left] w fun e w' => ∃ r, e = .returned (.int .i64 r) ∧ (SzAns n S left r ∧ r ≤ left) ∧ Below w.heap.size w w' := by
  obtain ⟨ao, cp, rfl⟩ := h.form
  have H : Hid (Stos w B n S V (.slice ao n cp)) := h
  have HN : Hid (∀ i, i < n → BigS (S i)) := hs
  clear h hs
  by_cases hl : left < n
  · have d : decide (left - n < 0) = true := decide_eq_true (by omega)
    go_enter Tryz.func44, Tryz.ntmps44
    go_wp2
    go_ret
    exact ⟨-1, rfl, ⟨Or.inl rfl, by omega⟩, Below.refl _ _⟩
  have d : decide (left - n < 0) = false := decide_eq_false (by omega)
  go_enter Tryz.func44, Tryz.ntmps44
  go_wp2
  go_loopw [1, 5] (fun j i wr => ∃ (k : Nat) (L : Int), k ≤ n ∧ j = .int .i64 L ∧ i = .int .i64 k ∧ Hid ((0 ≤ L ∧ L + (sumN (sizeT S) k : Nat) ≤ left) ∧ ∀ i, i < k → SmallS (S i)) ∧ Hid (Below w.heap.size w wr)) (fun _ i _ => n - (intOf i).toNat)
  case atStart => exact ⟨0, left - n, Nat.zero_le _, rfl, rfl, ⟨by simp only [sumN]; omega, fun i hi => absurd hi (Nat.not_lt_zero i)⟩, Below.refl _ _⟩
  case round =>
    obtain ⟨k, L, hk, rfl, rfl, hL, hR⟩ := hrel
    by_cases hlt : k < n
    · obtain ⟨g, o, rfl, _, hg, ⟨c0, c1, c2⟩, sk⟩ := H.out.at hlt
      have b0 := hR.out.cell (p := ⟨g, o + k * 3, none⟩) hg
      rw [c0] at b0
      have b1 := hR.out.cell (p := ⟨g, o + k * 3 + 1, none⟩) hg
      rw [c1] at b1
      have b2 := hR.out.cell (p := ⟨g, o + k * 3 + 2, none⟩) hg
      rw [c2] at b2
      clear c0 c1 c2
      obtain ⟨a0, d0, a1, d1, a2, d2, e0, e1, e2⟩ := sk.form
      rw [e0] at b0
      rw [e1] at b1
      rw [e2] at b2
      clear sk e0 e1 e2
      obtain ⟨n0, hn0⟩ : ∃ x, (S k).nc = x := ⟨_, rfl⟩
      obtain ⟨n1, hn1⟩ : ∃ x, (S k).nl = x := ⟨_, rfl⟩
      obtain ⟨n2, hn2⟩ : ∃ x, (S k).nw = x := ⟨_, rfl⟩
      rw [hn0] at b0
      rw [hn1] at b1
      rw [hn2] at b2
      have hB : Hid (n0 ≤ 9223372036854775807 ∧ n1 ≤ 9223372036854775807 ∧ n2 ≤ 9223372036854775807) := by
        have := HN.out k hlt
        unfold BigS at this
        rw [hn0, hn1, hn2] at this
        exact this
      have hE : Hid ((S k).nc = n0 ∧ (S k).nl = n1 ∧ (S k).nw = n2) := ⟨hn0, hn1, hn2⟩
      clear hn0 hn1 hn2
      by_cases hfit : (n0 : Int) + n1 + n2 ≤ L
      · go_wp2_with fail
        refine (szStore_ok L _ _ _ _ _ _ _ _ _ _ hfit hL.out.1.1 (by have := hL.out.1; omega) hB.out.1 hB.out.2.1 hB.out.2.2).mono ?_
        rintro e w1 ⟨rfl, q1⟩
        have HB : Hid (Below w.heap.size w w1) := hR.out.trans (q1.mono hR.out.size)
        have dd : decide (L - n0 - n1 - n2 < 0) = false := decide_eq_false (by omega)
        clear q1 hR b0 b1 b2
        go_wp2
        go_roundw
        case rel =>
          have hst : sumN (sizeT S) (k + 1) = sumN (sizeT S) k + (n0 + n1 + n2) := by show sumN (sizeT S) k + ((S k).nc + (S k).nl + (S k).nw) = _; rw [hE.out.1, hE.out.2.1, hE.out.2.2]
          refine ⟨k + 1, L - n0 - n1 - n2, by omega, by go_num, by go_num, ⟨by have := hL.out.1; rw [hst]; omega, fun i hi => ?_⟩, HB⟩
          by_cases q : i = k
          · subst q
            have h1 := hL.out.1
            unfold SmallS
            rw [hE.out.1, hE.out.2.1, hE.out.2.2]
            omega
          · exact hL.out.2 i (by omega)
        case measure => simp [intOf]; omega
      · go_wp2_with fail
        refine (szStore_no L _ _ _ _ _ _ _ _ _ _ (by omega) hL.out.1.1 (by have := hL.out.1; omega) hB.out.1 hB.out.2.1 hB.out.2.2).mono ?_
        rintro e w1 ⟨rfl, q1⟩
        have HB : Hid (Below w.heap.size w w1) := hR.out.trans (q1.mono hR.out.size)
        clear q1 hR b0 b1 b2
        go_wp2
        go_ret
        exact ⟨-1, rfl, ⟨Or.inl rfl, by omega⟩, HB.out⟩
    · obtain rfl : k = n := by omega
      go_wp2
      go_ret
      exact ⟨L, rfl, ⟨Or.inr ⟨hL.out.1.1, by omega, by have := hL.out.1; omega, hL.out.2⟩, by have := hL.out.1; omega⟩, hR.out⟩

set_option maxHeartbeats 1000000 in
theorem szGroups_lim (nr : Nat) (F : Nat → Int) (n : Nat) (S : Nat → Sto) (V : Nat → Nat → Value) (vr vs : Value) (B : Nat) (w : World) (h : Grs w B nr F n S V vr vs) (hr : nr ≤ 9223372036854775807) (hn : n ≤ 9223372036854775807) (hs : ∀ i, i < n → BigS (S i)) :
    Calls Tryz.prog 19 #[.agg #[vr, vs], .int .i64 1048576] w fun e w' => ∃ r, e = .returned (.int .i64 r) ∧ (r = -1 ∨ (0 ≤ r ∧ nr ≤ 1048576 ∧ (n ≤ 1048576 ∧ sumN (sizeT S) n ≤ 1048576) ∧ ∀ i, i < n → SmallS (S i))) ∧ r ≤ 1048576 ∧ Below w.heap.size w w' := by
  obtain ⟨a0, c0, a1, c1, rfl, rfl⟩ := h.form
  have H : Hid (Grs w B nr F n S V (.slice a0 nr c0) (.slice a1 n c1)) := h
  have HN : Hid (∀ i, i < n → BigS (S i)) := hs
  clear h hs
  by_cases hl : (1048576 : Int) < nr
  · go_enter Tryz.func19, Tryz.ntmps19
    go_wp2_with fail
    refine (szRangeS_no _ _ _ 1048576 _ hl (by omega) (by omega) hr).mono ?_
    rintro e w1 ⟨rfl, rfl⟩
    go_wp2
    go_ret
    exact ⟨-1, rfl, Or.inl rfl, by omega, below_alloc _ _⟩
  go_enter Tryz.func19, Tryz.ntmps19
  go_wp2_with fail
  refine (szRangeS_ok _ _ _ 1048576 _ (by omega) (by omega)).mono ?_
  rintro e w1 ⟨rfl, hw1⟩
  have d : decide ((1048576 : Int) - nr < 0) = false := decide_eq_false (by omega)
  have k1 : Blk2 w1 w.heap.size (.slice a0 nr c0) (.slice a1 n c1) := by rw [hw1]; exact Blk2.new w _ _ _
  have B1 : Hid (Below w.heap.size w w1) := by rw [hw1]; exact below_alloc _ _
  clear hw1
  obtain ⟨⟨_, x1⟩, _⟩ := k1
  go_wp2_with fail
  refine (szStoreS_lim n S V _ B (1048576 - nr) _ (H.out.2.later B1.out) hn HN.out (by omega) (by omega)).mono ?_
  rintro e w2 ⟨r, rfl, ⟨hA, hle⟩, q2⟩
  have B2 : Hid (Below w.heap.size w w2) := B1.out.trans (q2.mono B1.out.size)
  clear q2 x1
  rcases hA with rfl | ⟨h1, h3, h2, h4⟩
  · go_wp2
    go_ret
    exact ⟨-1, rfl, Or.inl rfl, by omega, B2.out⟩
  · have dr : decide (r < 0) = false := decide_eq_false (by omega)
    have HA : Hid (∀ i, i < n → SmallS (S i)) := h4
    clear h4
    go_wp2
    go_ret
    exact ⟨r, rfl, Or.inr ⟨h1, by omega, ⟨h3, by omega⟩, HA.out⟩, by omega, B2.out⟩
set_option maxRecDepth 100000 in
set_option maxHeartbeats 2000000 in
theorem szWorld_any (nw nx bd : Int) (nr : Nat) (F : Nat → Int) (n : Nat) (S : Nat → Sto) (V : Nat → Nat → Value) (vr vs : Value) (nt : Nat) (T : Nat → Tx) (X : Nat → Value) (vt : Value) (B : Nat) (w : World) (h : Grs w B nr F n S V vr vs) (ht : Txs w B nt T X vt) (hr : nr ≤ 9223372036854775807) (hn : n ≤ 9223372036854775807) (hs : ∀ i, i < n → BigS (S i)) (hnt : nt ≤ 9223372036854775807) (hx : ∀ i, i < nt → (T i).m ≤ 9223372036854775807) :
    Calls Tryz.prog 5 #[.agg #[.int .i64 nw, .int .i64 nx, .int .i64 bd, vr, vs, vt], .int .i64 1048576] w fun e w' => ∃ r, e = .returned (.int .i64 r) ∧ (r = -1 ∨ (0 ≤ r ∧ (nr ≤ 1048576 ∧ n ≤ 1048576 ∧ sumN (sizeT S) n ≤ 1048576 ∧ ∀ i, i < n → SmallS (S i)) ∧ nt ≤ 1048576 ∧ sumN (sizeX T) nt ≤ 1048576 ∧ ∀ i, i < nt → (T i).m ≤ 1048576)) ∧ Below w.heap.size w w' := by
  obtain ⟨a0, c0, a1, c1, rfl, rfl⟩ := h.form
  obtain ⟨at', ct, rfl⟩ := ht.form
  have H : Hid (Grs w B nr F n S V (.slice a0 nr c0) (.slice a1 n c1) ∧ Txs w B nt T X (.slice at' nt ct)) := ⟨h, ht⟩
  have HN : Hid ((∀ i, i < n → BigS (S i)) ∧ ∀ i, i < nt → (T i).m ≤ 9223372036854775807) := ⟨hs, hx⟩
  have K0 : Hid (Blk6 (w.alloc (.cells #[.int .i64 nw, .int .i64 nx, .int .i64 bd, .slice a0 nr c0, .slice a1 n c1, .slice at' nt ct] 30)) w.heap.size (.int .i64 nw) (.int .i64 nx) (.int .i64 bd) (.slice a0 nr c0) (.slice a1 n c1) (.slice at' nt ct)) := Blk6.new w _ _ _ _ _ _ _
  clear h ht hs hx
  go_enter Tryz.func5, Tryz.ntmps5
  go_wp2_with fail
  refine (szGroups_lim nr F n S V _ _ B _ (H.out.1.later (below_alloc _ _)) hr hn HN.out.1).mono ?_
  rintro e w1 ⟨r, rfl, hA, hle, q1⟩
  have Q1 : Hid (Below w.heap.size w w1 ∧ Blk6 w1 w.heap.size (.int .i64 nw) (.int .i64 nx) (.int .i64 bd) (.slice a0 nr c0) (.slice a1 n c1) (.slice at' nt ct)) := ⟨(below_alloc _ _).trans (q1.mono (by simp)), K0.out.later q1⟩
  clear q1 K0
  rcases hA with rfl | ⟨h1, h2, h3, h4⟩
  · go_wp2
    go_ret
    exact ⟨-1, rfl, Or.inl rfl, Q1.out.1⟩
  have dr : decide (r < 0) = false := decide_eq_false (by omega)
  have HA : Hid ((nr ≤ 1048576 ∧ n ≤ 1048576 ∧ sumN (sizeT S) n ≤ 1048576 ∧ ∀ i, i < n → SmallS (S i))) := ⟨h2, h3.1, h3.2, h4⟩
  clear h2 h3 h4
  obtain ⟨⟨s0, s1, s2, s3, s4, s5⟩, _⟩ := Q1.out.2
  go_wp2_with fail
  refine (szTxnS_any nt T X _ B r _ (H.out.2.later Q1.out.1) hnt HN.out.2 h1 hle).mono ?_
  rintro e w2 ⟨r2, rfl, hB, q2⟩
  have Q2 : Hid (Below w.heap.size w w2) := Q1.out.1.trans (q2.mono Q1.out.1.size)
  clear q2 s0 s1 s2 s3 s4 s5 Q1
  rcases hB with rfl | ⟨g1, g2, g3, g4⟩
  · go_wp2
    go_ret
    exact ⟨-1, rfl, Or.inl rfl, Q2.out⟩
  have dr2 : decide (r2 < 0) = false := decide_eq_false (by omega)
  have HB : Hid (nt ≤ 1048576 ∧ sumN (sizeX T) nt ≤ 1048576 ∧ ∀ i, i < nt → (T i).m ≤ 1048576) := ⟨g2, by omega, g4⟩
  clear g2 g3 g4
  go_wp2
  go_ret
  exact ⟨r2, rfl, Or.inr ⟨g1, HA.out, HB.out⟩, Q2.out⟩
end Go.Proofs.YtdbcmckoiacemaaGreat

namespace Go.Proofs.YtdbcmckoiacemaaGreat
open Go.RowKit

set_option maxRecDepth 100000 in
set_option maxHeartbeats 8000000 in
theorem implWorldFault_any (nw nx bd : Int) (nr : Nat) (F : Nat → Int) (n : Nat) (S : Nat → Sto) (V : Nat → Nat → Value) (vr vs : Value) (nt : Nat) (T : Nat → Tx) (X : Nat → Value) (vt : Value) (B : Nat) (w : World) (h : Grs w B nr F n S V vr vs) (hx : Txs w B nt T X vt) (hr : nr ≤ 9223372036854775807) (hn : n ≤ 9223372036854775807) (ht : nt ≤ 9223372036854775807) :
    Calls Tryz.prog 26 #[.agg #[.int .i64 nw, .int .i64 nx, .int .i64 bd, vr, vs, vt]] w fun e w' => e = .returned (.int .i64 (worldF nw nx bd nr F n S nt T)) ∧ Below w.heap.size w w' := by
  obtain ⟨a0, c0, a1, c1, rfl, rfl⟩ := h.form
  obtain ⟨a2, c2, rfl⟩ := hx.form
  have H : Hid (LiesD (w.alloc (.cells #[.int .i64 nw, .int .i64 nx, .int .i64 bd, .slice a0 nr c0, .slice a1 n c1, .slice a2 nt c2] 43)) w.heap.size nw nx bd nr F n S V (.slice a0 nr c0) (.slice a1 n c1) nt T X (.slice a2 nt c2) ∧ Below w.heap.size w (w.alloc (.cells #[.int .i64 nw, .int .i64 nx, .int .i64 bd, .slice a0 nr c0, .slice a1 n c1, .slice a2 nt c2] 43))) := ⟨⟨Blk6.new w _ _ _ _ _ _ _, (h.mono (Nat.zero_le _)).alloc _, (hx.mono (Nat.zero_le _)).alloc _⟩, below_alloc _ _⟩
  clear h hx
  by_cases h0 : 0 ≤ nw ∧ nw ≤ 100000
  case neg =>
    have D0 : Hid (decide (0 ≤ nw ∧ nw ≤ 100000) = false) := decide_eq_false h0
    have E : Hid (worldF nw nx bd nr F n S nt T = 3) := worldF_now h0
    clear h0
    go_enter Tryz.func26, Tryz.ntmps26
    go_wp2_with fail
    refine (isNowW_is nw false D0.out _).mono ?_
    rintro e w1 ⟨rfl, hw1⟩
    obtain rfl := hw1.symm
    go_wp2
    go_ret
    exact ⟨by rw [E.out]; rfl, H.out.2⟩
  have D0 : Hid (decide (0 ≤ nw ∧ nw ≤ 100000) = true) := decide_eq_true h0
  have H0 : Hid (0 ≤ nw ∧ nw ≤ 100000) := h0
  clear h0
  obtain ⟨f1, hf1⟩ : ∃ f, oFault nx bd = f := ⟨_, rfl⟩
  have HF1 : Hid (oFault nx bd = f1) := hf1
  clear hf1
  go_enter Tryz.func26, Tryz.ntmps26
  go_wp2_with fail
  refine (isNowW_is nw true D0.out _).mono ?_
  rintro e w1 ⟨rfl, hw1⟩
  obtain rfl := hw1.symm
  go_wp2_with fail
  refine (implOracleFault_any nx bd _).mono ?_
  rw [HF1.out]
  rintro e w2 ⟨rfl, hw2⟩
  have H2 : Hid (LiesD w2 w.heap.size nw nx bd nr F n S V (.slice a0 nr c0) (.slice a1 n c1) nt T X (.slice a2 nt c2) ∧ Below w.heap.size w w2) := by
    rw [hw2]
    exact ⟨H.out.1.later (below_alloc _ _), H.out.2.alloc (by have := H.out.2.size; omega) _⟩
  clear hw2 H
  by_cases hz1 : f1 = 0
  case neg =>
    have d : (f1 != 0) = true := bne_iff_ne.2 hz1
    have E : Hid (worldF nw nx bd nr F n S nt T = f1) := (worldF_oracle H0.out (by rw [HF1.out]; exact hz1)).trans HF1.out
    clear hz1
    go_wp2
    go_ret
    exact ⟨by rw [E.out]; rfl, H2.out.2⟩
  subst hz1
  obtain ⟨f2, hf2⟩ : ∃ f, groupsF nr F n S = f := ⟨_, rfl⟩
  have HF2 : Hid (groupsF nr F n S = f2) := hf2
  clear hf2
  obtain ⟨⟨⟨p0, p1, p2, p3, p4, p5⟩, _⟩, _⟩ := H2.out.1
  go_wp2_with fail
  refine (implGroupsFault_any nr F n S V _ _ 0 _ H2.out.1.2.1 hr hn).mono ?_
  rw [HF2.out]
  rintro e w3 ⟨rfl, q3⟩
  have H3 : Hid (LiesD w3 w.heap.size nw nx bd nr F n S V (.slice a0 nr c0) (.slice a1 n c1) nt T X (.slice a2 nt c2) ∧ Below w.heap.size w w3) := ⟨H2.out.1.later q3, H2.out.2.trans (q3.mono H2.out.2.size)⟩
  clear q3 H2 p0 p1 p2 p3 p4 p5
  by_cases hz2 : f2 = 0
  case neg =>
    have d : (f2 != 0) = true := bne_iff_ne.2 hz2
    have E : Hid (worldF nw nx bd nr F n S nt T = f2) := (worldF_groups H0.out HF1.out (by rw [HF2.out]; exact hz2)).trans HF2.out
    clear hz2
    go_wp2
    go_ret
    exact ⟨by rw [E.out]; rfl, H3.out.2⟩
  subst hz2
  obtain ⟨⟨⟨p0, p1, p2, p3, p4, p5⟩, _⟩, _⟩ := H3.out.1
  by_cases h16 : 16 < nt
  · have d : decide ((nt : Int) > 16) = true := decide_eq_true (by omega)
    have E : Hid (worldF nw nx bd nr F n S nt T = 2) := worldF_many H0.out HF1.out HF2.out h16
    go_wp2
    go_ret
    exact ⟨by rw [E.out]; rfl, H3.out.2⟩
  have d : decide ((nt : Int) > 16) = false := decide_eq_false (by omega)
  have EW : Hid (worldF nw nx bd nr F n S nt T = scan (placeF nx T) nt) := worldF_txns H0.out HF1.out HF2.out h16
  have hn16 : nt ≤ 16 := by omega
  clear h16 HF1 HF2 H0 ht
  go_wp2
  clear p0 p1 p2 p3 p4 p5 d
  go_loopw [30] (fun i wr => ∃ k : Nat, k ≤ nt ∧ i = .int .i64 k ∧ Hid (scan (placeF nx T) k = 0) ∧ Hid (LiesD wr w.heap.size nw nx bd nr F n S V (.slice a0 nr c0) (.slice a1 n c1) nt T X (.slice a2 nt c2) ∧ Below w.heap.size w wr)) (fun i _ => nt - (intOf i).toNat)
  case atStart => exact ⟨0, Nat.zero_le _, rfl, rfl, H3⟩
  case round =>
    clear H3
    obtain ⟨k, hk, rfl, HS, HB⟩ := hrel
    by_cases hlt : k < nt
    case neg =>
      obtain rfl : k = nt := by omega
      have E : Hid (worldF nw nx bd nr F n S k T = 0) := EW.out.trans HS.out
      go_wp2
      go_ret
      exact ⟨by rw [E.out]; rfl, HB.out.2⟩
    obtain ⟨⟨⟨p0, p1, p2, p3, p4, p5⟩, _⟩, _⟩ := HB.out.1
    obtain ⟨f, hf⟩ : ∃ f, placeF nx T k = f := ⟨_, rfl⟩
    have HF : Hid (placeF nx T k = f) := hf
    clear hf
    go_wp2_with fail
    refine (implPlace_any nw nx bd _ _ nt T X _ k _ HB.out.1.2.2 hlt hn16).mono ?_
    rw [HF.out]
    rintro e w4 ⟨rfl, q4⟩
    have H4 : Hid (LiesD w4 w.heap.size nw nx bd nr F n S V (.slice a0 nr c0) (.slice a1 n c1) nt T X (.slice a2 nt c2) ∧ Below w.heap.size w w4) := ⟨HB.out.1.later q4, HB.out.2.trans (q4.mono HB.out.2.size)⟩
    clear q4 HB p0 p1 p2 p3 p4 p5
    by_cases hz : f = 0
    case neg =>
      have d' : (f != 0) = true := bne_iff_ne.2 hz
      have E : Hid (worldF nw nx bd nr F n S nt T = f) := EW.out.trans ((scan_stop HS.out (by rw [HF.out]; exact hz) hlt).trans HF.out)
      clear hz HF HS EW
      go_wp2
      go_ret
      exact ⟨by rw [E.out]; rfl, H4.out.2⟩
    subst hz
    have HS1 : Hid (scan (placeF nx T) (k + 1) = 0) := scan_go HS.out HF.out
    clear HS HF
    go_wp2
    go_roundw
    case rel => exact ⟨k + 1, by omega, by go_num, HS1, H4⟩
    case measure => simp [intOf]; omega
end Go.Proofs.YtdbcmckoiacemaaGreat

namespace Go.Proofs.YtdbcmckoiacemaaGreat
open Go.RowKit

theorem itemF_key {k kd v : Int} (h : itemF k kd v = 0) : faultOf k = 0 := by
  unfold itemF at h
  by_cases q : faultOf k = 0
  · exact q
  · rw [if_pos q] at h
    exact h
theorem itemsF_key {F : Nat → Int} {m : Nat} (hm : 0 < m) (h : itemsF F m 0 = 0) : faultOf (F 0) = 0 := by
  by_cases q : itemF (F (0 * 3)) (F (0 * 3 + 1)) (F (0 * 3 + 2)) = 0
  · rw [Nat.zero_mul] at q
    exact itemF_key q
  · exact absurd ((itemsF_bad hm rfl q).symm.trans h) q
/-- What a transaction without a fault keeps. -/
theorem txF_fine {t : Tx} (h : txF t = 0) : (1 ≤ t.m ∧ t.m ≤ 12) ∧ faultOf (t.L 0) = 0 := by
  unfold txF txnF at h
  split at h
  · omega
  split at h
  · omega
  rename_i h1
  split at h
  · rename_i h2; exact absurd h h2
  rename_i h2
  exact ⟨⟨by omega, by omega⟩, itemsF_key (by omega) (Decidable.not_not.1 h2)⟩
/-- What a world without a fault keeps. -/
theorem world_fine {nw nx bd : Int} {nr : Nat} {F : Nat → Int} {n : Nat} {S : Nat → Sto} {nt : Nat} {T : Nat → Tx} (h : worldF nw nx bd nr F n S nt T = 0) :
    groupsF nr F n S = 0 ∧ nt ≤ 16 ∧ ∀ i, i < nt → (1 ≤ (T i).m ∧ (T i).m ≤ 12) ∧ faultOf ((T i).L 0) = 0 := by
  unfold worldF at h
  split at h
  · omega
  split at h
  · rename_i q; exact absurd h q
  split at h
  · rename_i q; exact absurd h q
  rename_i h2
  split at h
  · omega
  rename_i h3
  refine ⟨Decidable.not_not.1 h2, by omega, fun i hi => txF_fine ?_⟩
  have := scan_zero h i hi
  unfold placeF at this
  split at this
  · rename_i q; exact absurd this q
  · rename_i q; exact Decidable.not_not.1 q
theorem DoneAt.get {nr : Nat} {F : Nat → Int} {S : Nat → Sto} (hG : Good nr F) {t : Tx} (hk : faultOf (t.L 0) = 0) : ∃ r, DoneAt nr F S t r := by
  obtain ⟨j, hj⟩ := hG.at (key := t.L 0) (faultOf_zero hk).2
  rcases firstW_or (S j).k (S j).nw (t.L 0) t.s with hno | ⟨i, hi⟩
  · exact ⟨none, j, hj, Or.inr ⟨fun i q => hno i q.1, rfl⟩⟩
  · by_cases e : (S j).k (i * 4 + 3) = 4
    · exact ⟨none, j, hj, Or.inr ⟨fun i' q => q.2 (by rw [firstW_one q.1 hi]; exact e), rfl⟩⟩
    · exact ⟨_, j, hj, Or.inl ⟨i, ⟨hi, e⟩, rfl⟩⟩
/-- What CommittedOf answers: a code and a list. -/
def CmAns (nw nx bd : Int) (nr : Nat) (F : Nat → Int) (n : Nat) (S : Nat → Sto) (nt : Nat) (T : Nat → Tx) (c : Int) (L : Prs) : Prop :=
  (worldF nw nx bd nr F n S nt T ≠ 0 ∧ c = worldF nw nx bd nr F n S nt T ∧ L = []) ∨
  (worldF nw nx bd nr F n S nt T = 0 ∧ c = 0 ∧ ∃ R, (∀ i, i < nt → DoneAt nr F S (T i) (R i)) ∧ L = donesL R nt)
theorem CmAns.get (nw nx bd : Int) (nr : Nat) (F : Nat → Int) (n : Nat) (S : Nat → Sto) (nt : Nat) (T : Nat → Tx) : ∃ c L, L.length ≤ 16 ∧ CmAns nw nx bd nr F n S nt T c L := by
  by_cases h : worldF nw nx bd nr F n S nt T = 0
  · have Z := world_fine h
    have hall : ∀ i, ∃ r, i < nt → DoneAt nr F S (T i) r := fun i => by
      by_cases hi : i < nt
      · obtain ⟨r, hr⟩ := DoneAt.get (S := S) (groupsF_zero Z.1).1 (Z.2.2 i hi).2
        exact ⟨r, fun _ => hr⟩
      · exact ⟨none, fun q => absurd q hi⟩
    obtain ⟨R, hR⟩ := Classical.axiomOfChoice hall
    exact ⟨0, donesL R nt, Nat.le_trans (donesL_len R nt) Z.2.1, Or.inr ⟨h, rfl, R, hR, rfl⟩⟩
  · exact ⟨_, [], by simp, Or.inl ⟨h, rfl, rfl⟩⟩
theorem res_noneD {w w' : World} {c : Int} {e : Ending} (he : e = .returned (.agg #[.int .i64 c, .slice none 0 0])) (hb : Below w.heap.size w w') : ResRow 2 w c ([] : Prs).length (rowL []) e w' :=
  ⟨none, 0, he, ⟨_, _, rfl, fun q => absurd q (Nat.lt_irrefl 0)⟩, by rw [show ([] : Prs).length * 2 = 0 from rfl]; exact Free.of0 _ _, hb⟩
set_option maxRecDepth 100000 in
set_option maxHeartbeats 4000000 in
theorem specCommitted_is (nw nx bd : Int) (nr : Nat) (F : Nat → Int) (n : Nat) (S : Nat → Sto) (V : Nat → Nat → Value) (vr vs : Value) (nt : Nat) (T : Nat → Tx) (X : Nat → Value) (vt : Value) (B : Nat) (c : Int) (L : Prs) (w : World) (h : Grs w B nr F n S V vr vs) (hx : Txs w B nt T X vt) (hr : nr ≤ 9223372036854775807) (hn : n ≤ 9223372036854775807) (ht : nt ≤ 9223372036854775807) (hm : ∀ i, i < nt → (T i).m ≤ 9223372036854775807) (hA : CmAns nw nx bd nr F n S nt T c L) :
    Calls Tryz.prog 6 #[.agg #[.int .i64 nw, .int .i64 nx, .int .i64 bd, vr, vs, vt]] w (ResRow 2 w c L.length (rowL L)) := by
  obtain ⟨a0, c0, a1, c1, rfl, rfl⟩ := h.form
  obtain ⟨a2, c2, rfl⟩ := hx.form
  have HG : Hid (Grs w 0 nr F n S V (.slice a0 nr c0) (.slice a1 n c1) ∧ Txs w 0 nt T X (.slice a2 nt c2)) := ⟨h.mono (Nat.zero_le _), hx.mono (Nat.zero_le _)⟩
  have HM : Hid (∀ i, i < nt → (T i).m ≤ 9223372036854775807) := hm
  have H0 : Hid (LiesD ((w.alloc (.cells #[.int .i64 nw, .int .i64 nx, .int .i64 bd, .slice a0 nr c0, .slice a1 n c1, .slice a2 nt c2] 43)).alloc (.cells #[.int .i64 0, .slice none 0 0] 34)) w.heap.size nw nx bd nr F n S V (.slice a0 nr c0) (.slice a1 n c1) nt T X (.slice a2 nt c2) ∧ Blk2 ((w.alloc (.cells #[.int .i64 nw, .int .i64 nx, .int .i64 bd, .slice a0 nr c0, .slice a1 n c1, .slice a2 nt c2] 43)).alloc (.cells #[.int .i64 0, .slice none 0 0] 34)) (w.heap.size + 1) (.int .i64 0) (.slice none 0 0) ∧ Below w.heap.size w ((w.alloc (.cells #[.int .i64 nw, .int .i64 nx, .int .i64 bd, .slice a0 nr c0, .slice a1 n c1, .slice a2 nt c2] 43)).alloc (.cells #[.int .i64 0, .slice none 0 0] 34))) := ⟨⟨(Blk6.new w _ _ _ _ _ _ _).alloc _, ((h.mono (Nat.zero_le _)).alloc _).alloc _, ((hx.mono (Nat.zero_le _)).alloc _).alloc _⟩, by have := Blk2.new (w.alloc (.cells #[.int .i64 nw, .int .i64 nx, .int .i64 bd, .slice a0 nr c0, .slice a1 n c1, .slice a2 nt c2] 43)) (.int .i64 0) (.slice none 0 0) 34; simpa using this, (below_alloc _ _).alloc (by simp) _⟩
  clear h hx hm
  obtain ⟨f, E⟩ : ∃ f, Hid (worldF nw nx bd nr F n S nt T = f) := ⟨_, rfl⟩
  rcases hA with ⟨h1, rfl, rfl⟩ | ⟨h1, rfl, R, hR, rfl⟩
  · rw [E.out] at h1
    have d : (f != 0) = true := bne_iff_ne.2 h1
    rw [E.out]
    clear h1
    go_enter Tryz.func6, Tryz.ntmps6
    go_wp2_with fail
    refine (l10Fault_any _ nw nx bd nr F n S V _ _ nt T X _ _ H0.out.1 hr hn ht HM.out).mono ?_
    rw [E.out]
    rintro e w1 ⟨rfl, q1⟩
    have hb := H0.out.2.1.later q1
    have HB : Hid (Below w.heap.size w w1) := H0.out.2.2.trans (q1.mono (by simp; omega))
    obtain ⟨⟨b0, b1⟩, y0, y1⟩ := hb
    clear q1 H0
    go_wp2
    refine bodyPost_ret (v := .agg #[.int .i64 f, .slice none 0 0]) (by simp [results, Tryz.results6, go_sem, b0, b1]) rfl ?_
    exact res_noneD rfl ((HB.out.setCell (by simp) _).setCell (by simp) _)
  · have Z := world_fine h1
    have ZG := groupsF_zero Z.1
    obtain rfl : f = 0 := E.out.symm.trans h1
    have HR : Hid (∀ i, i < nt → DoneAt nr F S (T i) (R i)) := hR
    have HZ : Hid ((nr ≤ 6 ∧ n = nr) ∧ (∀ i, i < n → (S i).nl ≤ 200 ∧ (S i).nw ≤ 200) ∧ nt ≤ 16 ∧ ∀ i, i < nt → 1 ≤ (T i).m) := ⟨⟨ZG.1.n6, ZG.2.1⟩, fun i hi => (storeF_zero (ZG.2.2.1 i hi).1).1.2, Z.2.1, fun i hi => (Z.2.2 i hi).1.1⟩
    clear hR h1 Z ZG
    go_enter Tryz.func6, Tryz.ntmps6
    go_wp2_with fail
    refine (l10Fault_any _ nw nx bd nr F n S V _ _ nt T X _ _ H0.out.1 hr hn ht HM.out).mono ?_
    rw [E.out]
    rintro e w1 ⟨rfl, q1⟩
    have H1 : Hid (LiesD w1 w.heap.size nw nx bd nr F n S V (.slice a0 nr c0) (.slice a1 n c1) nt T X (.slice a2 nt c2) ∧ Blk2 w1 (w.heap.size + 1) (.int .i64 0) (.slice none 0 0) ∧ Below w.heap.size w w1) := ⟨H0.out.1.later q1, H0.out.2.1.later q1, H0.out.2.2.trans (q1.mono (by simp; omega))⟩
    clear q1 H0
    go_wp2_with fail
    refine (l11Committed_is _ nw nx bd nr F n S V _ _ nt T X _ R _ H1.out.1 HZ.out.1.1 HZ.out.1.2 HZ.out.2.1 HZ.out.2.2.1 HZ.out.2.2.2 HR.out).mono ?_
    rintro e w4 ⟨ro, rc, rfl, hr2, q4⟩
    have HO : Hid (Own w4 w1.heap.size 110 2 (donesL R nt).length (rowL (donesL R nt)) (.slice ro (donesL R nt).length rc) ∧ Below w.heap.size w w4) := ⟨hr2, H1.out.2.2.trans (q4.mono H1.out.2.2.size)⟩
    have hbw : w.heap.size + 1 < w1.heap.size := H1.out.2.1.lt
    obtain ⟨⟨x0, x1⟩, z0, z1⟩ := H1.out.2.1.later q4
    clear hr2 q4
    obtain ⟨A, hA⟩ : ∃ A, donesL R nt = A := ⟨_, rfl⟩
    have HAA : Hid (donesL R nt = A) := hA
    rw [hA] at HO ⊢
    clear hA
    go_wp2
    refine bodyPost_ret (v := .agg #[.int .i64 0, .slice ro A.length rc]) (by simp [results, Tryz.results6, go_sem, x0, x1]) rfl ?_
    rw [HAA.out]
    refine ⟨ro, rc, rfl, ?_, ?_, ?_⟩
    · exact ((HO.out.1.row.1.far (Or.inl (by simp; omega)) _).far (Or.inl (by simp; omega)) _).mono (by omega)
    · exact (HO.out.1.row.2.far _ _).far _ _
    · exact (HO.out.2.setCell (by simp) _).setCell (by simp) _
set_option maxRecDepth 100000 in
set_option maxHeartbeats 4000000 in
theorem implCommitted_is (nw nx bd : Int) (nr : Nat) (F : Nat → Int) (n : Nat) (S : Nat → Sto) (V : Nat → Nat → Value) (vr vs : Value) (nt : Nat) (T : Nat → Tx) (X : Nat → Value) (vt : Value) (B : Nat) (c : Int) (L : Prs) (w : World) (h : Grs w B nr F n S V vr vs) (hx : Txs w B nt T X vt) (hr : nr ≤ 9223372036854775807) (hn : n ≤ 9223372036854775807) (ht : nt ≤ 9223372036854775807) (hm : ∀ i, i < nt → (T i).m ≤ 9223372036854775807) (hA : CmAns nw nx bd nr F n S nt T c L) :
    Calls Tryz.prog 8 #[.agg #[.int .i64 nw, .int .i64 nx, .int .i64 bd, vr, vs, vt]] w (ResRow 2 w c L.length (rowL L)) := by
  obtain ⟨a0, c0, a1, c1, rfl, rfl⟩ := h.form
  obtain ⟨a2, c2, rfl⟩ := hx.form
  have HG : Hid (Grs w 0 nr F n S V (.slice a0 nr c0) (.slice a1 n c1) ∧ Txs w 0 nt T X (.slice a2 nt c2)) := ⟨h.mono (Nat.zero_le _), hx.mono (Nat.zero_le _)⟩
  have HM : Hid (∀ i, i < nt → (T i).m ≤ 9223372036854775807) := hm
  have H0 : Hid (LiesD ((w.alloc (.cells #[.int .i64 nw, .int .i64 nx, .int .i64 bd, .slice a0 nr c0, .slice a1 n c1, .slice a2 nt c2] 43)).alloc (.cells #[.int .i64 0, .slice none 0 0] 34)) w.heap.size nw nx bd nr F n S V (.slice a0 nr c0) (.slice a1 n c1) nt T X (.slice a2 nt c2) ∧ Blk2 ((w.alloc (.cells #[.int .i64 nw, .int .i64 nx, .int .i64 bd, .slice a0 nr c0, .slice a1 n c1, .slice a2 nt c2] 43)).alloc (.cells #[.int .i64 0, .slice none 0 0] 34)) (w.heap.size + 1) (.int .i64 0) (.slice none 0 0) ∧ Below w.heap.size w ((w.alloc (.cells #[.int .i64 nw, .int .i64 nx, .int .i64 bd, .slice a0 nr c0, .slice a1 n c1, .slice a2 nt c2] 43)).alloc (.cells #[.int .i64 0, .slice none 0 0] 34))) := ⟨⟨(Blk6.new w _ _ _ _ _ _ _).alloc _, ((h.mono (Nat.zero_le _)).alloc _).alloc _, ((hx.mono (Nat.zero_le _)).alloc _).alloc _⟩, by have := Blk2.new (w.alloc (.cells #[.int .i64 nw, .int .i64 nx, .int .i64 bd, .slice a0 nr c0, .slice a1 n c1, .slice a2 nt c2] 43)) (.int .i64 0) (.slice none 0 0) 34; simpa using this, (below_alloc _ _).alloc (by simp) _⟩
  clear h hx hm
  obtain ⟨f, E⟩ : ∃ f, Hid (worldF nw nx bd nr F n S nt T = f) := ⟨_, rfl⟩
  obtain ⟨⟨k0, k1, k2, k3, k4, k5⟩, _⟩ := H0.out.1.1
  rcases hA with ⟨h1, rfl, rfl⟩ | ⟨h1, rfl, R, hR, rfl⟩
  · rw [E.out] at h1
    have d : (f != 0) = true := bne_iff_ne.2 h1
    rw [E.out]
    clear h1
    go_enter Tryz.func8, Tryz.ntmps8
    go_wp2_with fail
    refine (implWorldFault_any nw nx bd nr F n S V _ _ nt T X _ 0 _ H0.out.1.2.1 H0.out.1.2.2 hr hn ht).mono ?_
    rw [E.out]
    rintro e w1 ⟨rfl, q1⟩
    have hb := H0.out.2.1.later q1
    have HB : Hid (Below w.heap.size w w1) := H0.out.2.2.trans (q1.mono (by simp; omega))
    obtain ⟨⟨b0, b1⟩, y0, y1⟩ := hb
    clear q1 H0 k0 k1 k2 k3 k4 k5
    go_wp2
    refine bodyPost_ret (v := .agg #[.int .i64 f, .slice none 0 0]) (by simp [results, Tryz.results8, go_sem, b0, b1]) rfl ?_
    exact res_noneD rfl ((HB.out.setCell (by simp) _).setCell (by simp) _)
  · have Z := world_fine h1
    have ZG := groupsF_zero Z.1
    obtain rfl : f = 0 := E.out.symm.trans h1
    have HR : Hid (∀ i, i < nt → DoneAt n F S (T i) (R i)) := by rw [ZG.2.1]; exact hR
    have HZ : Hid ((n = nr ∧ n ≤ 12) ∧ (∀ i, i < n → storeF (S i) = 0) ∧ nt ≤ 16 ∧ ∀ i, i < nt → 1 ≤ (T i).m ∧ (T i).m ≤ 12) := ⟨⟨ZG.2.1, by have := ZG.1.n6; have := ZG.2.1; omega⟩, fun i hi => (ZG.2.2.1 i hi).1, Z.2.1, fun i hi => (Z.2.2 i hi).1⟩
    clear hR h1 Z ZG
    go_enter Tryz.func8, Tryz.ntmps8
    go_wp2_with fail
    refine (implWorldFault_any nw nx bd nr F n S V _ _ nt T X _ 0 _ H0.out.1.2.1 H0.out.1.2.2 hr hn ht).mono ?_
    rw [E.out]
    rintro e w1 ⟨rfl, q1⟩
    have H1 : Hid (LiesD w1 w.heap.size nw nx bd nr F n S V (.slice a0 nr c0) (.slice a1 n c1) nt T X (.slice a2 nt c2) ∧ Blk2 w1 (w.heap.size + 1) (.int .i64 0) (.slice none 0 0) ∧ Below w.heap.size w w1) := ⟨H0.out.1.later q1, H0.out.2.1.later q1, H0.out.2.2.trans (q1.mono (by simp; omega))⟩
    clear q1 H0 k0 k1 k2 k3 k4 k5
    obtain ⟨⟨k0, k1, k2, k3, k4, k5⟩, _⟩ := H1.out.1.1
    go_wp2_with fail
    refine (workOn_is nw nx bd nr F n S V _ _ nt T X _ 0 _ H1.out.1.2.1 H1.out.1.2.2 HZ.out.2.1 HZ.out.1.1 HZ.out.1.2 HZ.out.2.2.1 HZ.out.2.2.2).mono ?_
    rintro e w2 ⟨b, B2, g, P, Y, v, rfl, hW⟩
    have HD : Hid (DonE w2 b nw nx bd n F S g P w1.heap.size nt T Y v w2) := ⟨Below.refl _ _, hW.kb, hW.work, hW.txs.txs.mono (Nat.zero_le _)⟩
    have H2 : Hid (Blk2 w2 (w.heap.size + 1) (.int .i64 0) (.slice none 0 0) ∧ Below w.heap.size w w2) := ⟨H1.out.2.1.later hW.below, H1.out.2.2.trans (hW.below.mono H1.out.2.2.size)⟩
    clear hW H1 k0 k1 k2 k3 k4 k5
    go_wp2_with fail
    refine (dones_is w2 b nw nx bd n F S g P w1.heap.size nt T Y v R HD.out HR.out HZ.out.1.2 HZ.out.2.2.1 (fun i hi => (HZ.out.2.2.2 i hi).1)).mono ?_
    rintro e w4 ⟨ro, rc, rfl, hr2, q4⟩
    have HO : Hid (Own w4 w2.heap.size 110 2 (donesL R nt).length (rowL (donesL R nt)) (.slice ro (donesL R nt).length rc) ∧ Below w.heap.size w w4) := ⟨hr2, H2.out.2.trans (q4.mono H2.out.2.size)⟩
    have hbw : w.heap.size + 1 < w2.heap.size := H2.out.1.lt
    obtain ⟨⟨x0, x1⟩, z0, z1⟩ := H2.out.1.later q4
    clear hr2 q4
    obtain ⟨A, hA⟩ : ∃ A, donesL R nt = A := ⟨_, rfl⟩
    have HAA : Hid (donesL R nt = A) := hA
    rw [hA] at HO ⊢
    clear hA
    go_wp2
    refine bodyPost_ret (v := .agg #[.int .i64 0, .slice ro A.length rc]) (by simp [results, Tryz.results8, go_sem, x0, x1]) rfl ?_
    rw [HAA.out]
    refine ⟨ro, rc, rfl, ?_, ?_, ?_⟩
    · exact ((HO.out.1.row.1.far (Or.inl (by simp; omega)) _).far (Or.inl (by simp; omega)) _).mono (by omega)
    · exact (HO.out.1.row.2.far _ _).far _ _
    · exact (HO.out.2.setCell (by simp) _).setCell (by simp) _
end Go.Proofs.YtdbcmckoiacemaaGreat

namespace Go.Proofs.YtdbcmckoiacemaaGreat
open Go.RowKit

set_option maxHeartbeats 400000 in
theorem eqDone_same (x0 x1 : Int) (w : World) :
    Calls Tryz.prog 65 #[.agg #[.int .i64 x0, .int .i64 x1], .agg #[.int .i64 x0, .int .i64 x1]] w fun e w' => e = .returned (.bool true) ∧ Below w.heap.size w w' := by
  go_enter Tryz.func65, Tryz.ntmps65
  go_wp2
  go_ret
  exact ⟨rfl, ((Below.refl _ _).alloc (Nat.le_refl _) _).alloc (by simp) _⟩
def TwoDone (w : World) (g o g' o' k : Nat) (F : Nat → Int) (x : World) : Prop := (x.cell? ⟨g, o + k * 2, none⟩ = some (.int .i64 (F (k * 2))) ∧ x.cell? ⟨g, o + k * 2 + 1, none⟩ = some (.int .i64 (F (k * 2 + 1))) ∧ x.cell? ⟨g', o' + k * 2, none⟩ = some (.int .i64 (F (k * 2))) ∧ x.cell? ⟨g', o' + k * 2 + 1, none⟩ = some (.int .i64 (F (k * 2 + 1)))) ∧ Below w.heap.size w x
theorem TwoDone.later {w x x' : World} {g o g' o' k : Nat} {F : Nat → Int} (h : TwoDone w g o g' o' k F x) (hg : g < w.heap.size) (hg' : g' < w.heap.size) (hb : Below x.heap.size x x') : TwoDone w g o g' o' k F x' := by
  obtain ⟨⟨hx0, hx1, hx2, hx3⟩, hy⟩ := h
  exact ⟨⟨(hb.cell (Nat.lt_of_lt_of_le hg hy.size)).trans hx0, (hb.cell (Nat.lt_of_lt_of_le hg hy.size)).trans hx1, (hb.cell (Nat.lt_of_lt_of_le hg' hy.size)).trans hx2, (hb.cell (Nat.lt_of_lt_of_le hg' hy.size)).trans hx3⟩, hy.trans (hb.mono hy.size)⟩
set_option maxRecDepth 100000 in
set_option maxHeartbeats 1000000 in
theorem eqDoneS_same (va vb : Value) (Ba Bb n : Nat) (F : Nat → Int) (w : World) (ha : Row w Ba 2 n F va) (hb : Row w Bb 2 n F vb) (hn : n ≤ 1048576) :
    Calls Tryz.prog 29 #[va, vb] w fun e w' => e = .returned (.bool true) ∧ Below w.heap.size w w' := by
  obtain ⟨ao, ca, rfl⟩ := ha.form
  obtain ⟨bo, cb, rfl⟩ := hb.form
  have HA : Hid (Row w Ba 2 n F (.slice ao n ca)) := ha
  have HB : Hid (Row w Bb 2 n F (.slice bo n cb)) := hb
  clear ha hb
  go_enter Tryz.func29, Tryz.ntmps29
  go_wp2
  go_loopw [5] (fun i wr => ∃ k : Nat, k ≤ n ∧ i = .int .i64 k ∧ Below w.heap.size w wr) (fun i _ => n - (intOf i).toNat)
  case atStart => exact ⟨0, Nat.zero_le _, rfl, Below.refl _ _⟩
  case round =>
    obtain ⟨k, hk, rfl, hbw⟩ := hrel
    by_cases hlt : k < n
    · obtain ⟨g, o, rfl, _, hg, c0, c1⟩ := HA.out.at2 hlt
      obtain ⟨g', o', rfl, _, hg', d0, d1⟩ := HB.out.at2 hlt
      have h0 : TwoDone w g o g' o' k F wr.drew := ⟨⟨(hbw.cell (p := ⟨g, o + k * 2, none⟩) hg).trans c0, (hbw.cell (p := ⟨g, o + k * 2 + 1, none⟩) hg).trans c1, (hbw.cell (p := ⟨g', o' + k * 2, none⟩) hg').trans d0, (hbw.cell (p := ⟨g', o' + k * 2 + 1, none⟩) hg').trans d1⟩, hbw.drew⟩
      clear c0 d0 c1 d1 hbw
      go_wp2_with fail
      refine wp_region_held_drew (S := TwoDone w g o g' o' k F) (by kernel_rfl) h0 (fun hS => ?_)
      clear h0
      refine tkH 0 ?_ hS (fun wx hx => ?_) ?_; rotate_left
      · obtain ⟨⟨hx0, hx1, hx2, hx3⟩, _⟩ := hx; go_simp; try with_reducible rfl
      refine tkH 1 ?_ hS (fun wx hx => ?_) ?_; rotate_left
      · obtain ⟨⟨hx0, hx1, hx2, hx3⟩, _⟩ := hx; go_simp; try with_reducible rfl
      refine tkH 2 ?_ hS (fun wx hx => ?_) ?_; rotate_left
      · obtain ⟨⟨hx0, hx1, hx2, hx3⟩, _⟩ := hx; go_simp; try with_reducible rfl
      refine tkH 3 ?_ hS (fun wx hx => ?_) ?_; rotate_left
      · obtain ⟨⟨hx0, hx1, hx2, hx3⟩, _⟩ := hx; go_simp; try with_reducible rfl
      refine tkH 4 ?_ hS (fun wx hx => ?_) ?_; rotate_left
      · obtain ⟨⟨hx0, hx1, hx2, hx3⟩, _⟩ := hx; go_simp; try with_reducible rfl
      refine tkH 5 ?_ hS (fun wx hx => ?_) ?_; rotate_left
      · obtain ⟨⟨hx0, hx1, hx2, hx3⟩, _⟩ := hx; go_simp; try with_reducible rfl
      refine tkH 6 ?_ hS (fun wx hx => ?_) ?_; rotate_left
      · obtain ⟨⟨hx0, hx1, hx2, hx3⟩, _⟩ := hx; go_simp; try with_reducible rfl
      refine tkH 7 ?_ hS (fun wx hx => ?_) ?_; rotate_left
      · obtain ⟨⟨hx0, hx1, hx2, hx3⟩, _⟩ := hx; go_simp; try with_reducible rfl
      refine rdH 8 (fun K hK => ?_)
      go_simp
      go_wp2_with fail
      refine (eqDone_same _ _ _).mono ?_
      rintro e w' ⟨rfl, hb⟩
      go_wp2_with fail
      refine hK.out _ _ (hS.later hg hg' hb) (fun hS => ?_)
      clear hK K
      refine tkH 9 ?_ hS (fun wx hx => ?_) ?_; rotate_left
      · obtain ⟨⟨hx0, hx1, hx2, hx3⟩, _⟩ := hx; go_simp; try with_reducible rfl
      refine wpAnyH_done (by kernel_rfl) ?_ _
      go_simp
      go_wp2
      go_roundw
      case rel => exact ⟨k + 1, by omega, by go_num, hS.2⟩
      case measure => simp [intOf]; omega
    · go_wp2
      go_ret
      exact ⟨rfl, hbw⟩
set_option maxRecDepth 100000 in
set_option maxHeartbeats 2000000 in
theorem markDoneS_any (v : Value) (B n : Nat) (F : Nat → Int) (k0 : Int) (w : World) (h : Row w B 2 n F v) (hf : Free w (n * 2) v) (hn : n ≤ 1048576) (hk0 : 0 ≤ k0) (hk1 : k0 ≤ 100000000) :
    Calls Tryz.prog 35 #[v, .int .i64 k0] w fun e w' => e = .returned (.int .i64 (k0 + n * 2)) ∧ Row w' B 2 n (fun p => k0 + (p : Nat)) v ∧ Free w' (n * 2) v ∧ w.grownBy w' v.ownBlock := by
  obtain ⟨ao, cp, rfl⟩ := h.form
  have H0 : Hid (Marked w w B 2 n 0 k0 ao cp) := Marked.start h hf k0
  clear h hf
  go_enter Tryz.func35, Tryz.ntmps35
  go_wp2
  go_loopw [1, 5] (fun k i wr => ∃ j : Nat, j ≤ n ∧ i = .int .i64 j ∧ k = .int .i64 (k0 + j * 2) ∧ Hid (Marked w wr B 2 n j k0 ao cp)) (fun _ i _ => n - (intOf i).toNat)
  case atStart => exact ⟨0, Nat.zero_le _, rfl, by go_num, H0⟩
  case round =>
    obtain ⟨j, hj, rfl, rfl, hM⟩ := hrel
    by_cases hlt : j < n
    · obtain ⟨g, o, rfl, hB, hF⟩ := hM.out.1 (by omega)
      obtain ⟨u0, c0, e0⟩ := hF.at (p := j * 2) (by omega)
      obtain ⟨u1, c1, e1⟩ := hF.at (p := j * 2 + 1) (by omega)
      simp only [← Nat.add_assoc] at c0 e0 c1 e1
      have HF : Hid (Fill wr g o (n * 2) (j * 2) (fun p => k0 + (p : Nat)) ∧ w.grownBy wr (some g)) := ⟨hF, hM.out.2⟩
      clear hF hM H0
      go_wp2
      go_roundw
      case rel => exact ⟨j + 1, by omega, by go_num, by go_num, fun _ => ⟨g, o, rfl, hB, by rw [Nat.succ_mul]; exact ((HF.out.1.step (by omega) (by omega) (by omega)).step (by omega) (by omega) (by omega))⟩, (grownBy_set (grownBy_set HF.out.2 _ _) _ _)⟩
      case measure => simp [intOf]; omega
    · obtain rfl : j = n := by omega
      go_wp2
      go_ret
      exact ⟨rfl, hM.out.done.1, hM.out.done.2, hM.out.2⟩
set_option maxHeartbeats 2000000 in
theorem heldDoneS_any (v : Value) (B n : Nat) (k0 : Int) (w : World) (h : Row w B 2 n (fun p => k0 + (p : Nat)) v) (hn : n ≤ 1048576) (hk0 : 0 ≤ k0) (hk1 : k0 ≤ 100000000) :
    Calls Tryz.prog 36 #[v, .int .i64 k0] w fun e w' => e = .returned (.int .i64 (k0 + n * 2)) ∧ w' = w := by
  obtain ⟨ao, cp, rfl⟩ := h.form
  have H0 : Hid (Row w B 2 n (fun p => k0 + (p : Nat)) (.slice ao n cp)) := h
  clear h
  go_enter Tryz.func36, Tryz.ntmps36
  go_wp2
  go_loop [1, 5] (fun k i => ∃ j : Nat, j ≤ n ∧ i = .int .i64 j ∧ k = .int .i64 (k0 + j * 2)) (fun _ i => n - (intOf i).toNat)
  case atStart => exact ⟨0, Nat.zero_le _, rfl, by go_num⟩
  case round =>
    obtain ⟨j, hj, rfl, rfl⟩ := hrel
    by_cases hlt : j < n
    · obtain ⟨g, o, rfl, _, _, c0, c1⟩ := H0.out.at2 hlt
      rw [show k0 + ((j * 2 : Nat) : Int) = k0 + j * 2 from by omega] at c0
      rw [show k0 + ((j * 2 + 1 : Nat) : Int) = k0 + j * 2 + 1 from by omega] at c1
      go_wp2
      go_round
      case rel => exact ⟨j + 1, by omega, by go_num, by go_num⟩
      case measure => simp [intOf]; omega
    · obtain rfl : j = n := by omega
      go_wp2
      go_ret
      exact ⟨rfl, rfl⟩
set_option maxHeartbeats 1000000 in
theorem markDoneS_none (ao : Option Addr) (cp : Nat) (k0 : Int) (w : World) :
    Calls Tryz.prog 35 #[.slice ao 0 cp, .int .i64 k0] w fun e w' => e = .returned (.int .i64 k0) ∧ w' = w := by
  go_enter Tryz.func35, Tryz.ntmps35
  go_wp2
  go_loop [1, 5] (fun k i => i = .int .i64 0 ∧ k = .int .i64 k0) (fun _ i => 1 - (intOf i).toNat)
  case atStart => exact ⟨rfl, rfl⟩
  case round =>
    obtain ⟨rfl, rfl⟩ := hrel
    go_wp2
    go_ret
    exact ⟨rfl, rfl⟩
theorem markDoneS_turn (v : Value) (B n : Nat) (F : Nat → Int) (k0 : Int) (w : World) (h : Row w B 2 n F v) (hf : Free w (n * 2) v) (hn : n ≤ 1048576) (hk0 : 0 ≤ k0) (hk1 : k0 ≤ 100000000) :
    Calls Tryz.prog 35 #[v, .int .i64 k0] w fun e w' => e = .returned (.int .i64 (k0 + n * 2)) ∧ Row w' B 2 n (fun p => k0 + (p : Nat)) v ∧ Free w' (n * 2) v ∧ w.grownBy w' (turn n v) := by
  rcases Nat.eq_zero_or_pos n with e | e
  · subst e
    obtain ⟨ao, cp, rfl⟩ := h.form
    refine (markDoneS_none ao cp k0 w).mono fun e w' ⟨he, hw⟩ => ?_
    subst hw
    exact ⟨by rw [he]; simp, ⟨_, _, rfl, fun q => absurd q (Nat.lt_irrefl 0)⟩, hf, rfl, rfl, rfl, Nat.le_refl _, fun _ _ _ => rfl⟩
  · refine (markDoneS_any v B n F k0 w h hf hn hk0 hk1).mono fun e' w' ⟨he, h1, h2, h3⟩ => ⟨he, h1, h2, ?_⟩
    unfold turn
    rw [if_neg (by omega)]
    exact h3
set_option maxHeartbeats 1000000 in
theorem eqDonesResult_same (c : Int) (n : Nat) (a b : Option Addr) (p q : Nat) (Ba Bb : Nat) (F : Nat → Int) (w : World) (ha : Row w Ba 2 n F (.slice a n p)) (hb : Row w Bb 2 n F (.slice b n q)) (hn : n ≤ 1048576) :
    Calls Tryz.prog 9 #[.agg #[.int .i64 c, .slice a n p], .agg #[.int .i64 c, .slice b n q]] w fun e w' => e = .returned (.bool true) ∧ Below w.heap.size w w' := by
  have HA : Hid (Row w Ba 2 n F (.slice a n p) ∧ Row w Bb 2 n F (.slice b n q)) := ⟨ha, hb⟩
  clear ha hb
  go_enter Tryz.func9, Tryz.ntmps9
  go_wp2_with fail
  refine (eqDoneS_same _ _ Ba Bb n F _ ((HA.out.1.alloc _).alloc _) ((HA.out.2.alloc _).alloc _) hn).mono ?_
  rintro e w1 ⟨rfl, q1⟩
  have Q : Hid (Below w.heap.size w w1) := ((below_alloc _ _).alloc (by simp) _).trans (q1.mono (by simp; omega))
  clear q1
  go_wp2
  go_ret
  exact ⟨rfl, Q.out⟩
set_option maxHeartbeats 1000000 in
theorem markDonesResult_any (c : Int) (n : Nat) (a : Option Addr) (p : Nat) (B : Nat) (F : Nat → Int) (w : World) (h : Row w B 2 n F (.slice a n p)) (hf : Free w (n * 2) (.slice a n p)) (hn : n ≤ 1048576) :
    Calls Tryz.prog 12 #[.agg #[.int .i64 c, .slice a n p], .int .i64 1] w fun e w' => e = .returned (.int .i64 (1 + n * 2)) ∧ Row w' B 2 n (fun p => 1 + (p : Nat)) (.slice a n p) ∧ w.grownBy w' (turn n (.slice a n p)) := by
  have HA : Hid (Row w B 2 n F (.slice a n p) ∧ Free w (n * 2) (.slice a n p)) := ⟨h, hf⟩
  clear h hf
  go_enter Tryz.func12, Tryz.ntmps12
  go_wp2_with fail
  refine (markDoneS_turn _ B n F 1 _ (HA.out.1.alloc _) (HA.out.2.ofRow HA.out.1 (below_alloc _ _)) hn (by omega) (by omega)).mono ?_
  rintro e w1 ⟨rfl, r1, _, g1⟩
  have Q : Hid (w.grownBy w1 (turn n (.slice a n p))) := ⟨g1.os, g1.tape, g1.output, Nat.le_trans (by simp) g1.size, fun k hk hne => (g1.block k (by simp; omega) hne).trans ((below_alloc w _).block k hk)⟩
  have R : Hid (Row w1 B 2 n (fun p => 1 + (p : Nat)) (.slice a n p)) := r1
  clear r1 g1
  go_wp2
  go_ret
  exact ⟨rfl, R.out, Q.out⟩
set_option maxHeartbeats 1000000 in
theorem heldDonesResult_any (c : Int) (n : Nat) (a : Option Addr) (p : Nat) (B : Nat) (w : World) (h : Row w B 2 n (fun p => 1 + (p : Nat)) (.slice a n p)) (hn : n ≤ 1048576) :
    Calls Tryz.prog 13 #[.agg #[.int .i64 c, .slice a n p], .int .i64 1] w fun e w' => e = .returned (.int .i64 (1 + n * 2)) ∧ Below w.heap.size w w' := by
  have HA : Hid (Row w B 2 n (fun p => 1 + (p : Nat)) (.slice a n p)) := h
  clear h
  go_enter Tryz.func13, Tryz.ntmps13
  go_wp2_with fail
  refine (heldDoneS_any _ B n 1 _ (HA.out.alloc _) hn (by omega) (by omega)).mono ?_
  rintro e w1 ⟨rfl, rfl⟩
  have hnn : decide ((1 : Int) + n * 2 < 0) = false := decide_eq_false (by omega)
  go_wp2
  go_ret
  exact ⟨rfl, below_alloc _ _⟩
end Go.Proofs.YtdbcmckoiacemaaGreat

namespace Go.Proofs.YtdbcmckoiacemaaGreat
open Go.RowKit

def markX (T : Nat → Tx) (i : Nat) : Nat := 5 + (T i).m * 3
theorem markX_le (T : Nat → Tx) : ∀ n, sumN (markX T) n ≤ 5 * n + 3 * sumN (sizeX T) n
  | 0 => by simp [sumN]
  | n + 1 => by
    have := markX_le T n
    show sumN (markX T) n + markX T n ≤ 5 * (n + 1) + 3 * (sumN (sizeX T) n + sizeX T n)
    unfold markX sizeX at *
    omega
theorem Fil.over {w : World} {g N : Nat} {X : Nat → Value} {D : Nat → Prop} (h : Fil w g N X D) {p : Nat} (hp : p < N) (hd : ¬ D p) (v : Value) : Fil (w.setCell ⟨g, p, none⟩ v) g N X D := by
  obtain ⟨u, hu⟩ := (h.2 p hp).1.1
  have same : (w.setCell ⟨g, p, none⟩ v).cell? ⟨g, p, none⟩ = some v := World.cell?_setCell_same _ _ _ hu
  have other : ∀ q, q ≠ p → (w.setCell ⟨g, p, none⟩ v).cell? ⟨g, q, none⟩ = w.cell? ⟨g, q, none⟩ := fun q hq => World.cell?_setCell_other _ _ _ _ (fun e => hq (congrArg Addr.off e).symm)
  refine ⟨by simpa [World.setCell] using h.1, fun q hq => ⟨⟨?_, by simp only [World.frozen?_setCell]; exact (h.2 q hq).1.2⟩, fun d => ?_⟩⟩
  · by_cases e : q = p
    · subst e; exact ⟨_, same⟩
    · rw [other q e]; exact (h.2 q hq).1.1
  · by_cases e : q = p
    · subst e; exact absurd d hd
    · rw [other q e]; exact (h.2 q hq).2 d
theorem Fil.within {w w' : World} {g N B E : Nat} {X : Nat → Value} {D : Nat → Prop} (h : Fil w g N X D) (hw : Within B E w w') (hg : g < B ∨ E ≤ g) : Fil w' g N X D := by
  have hb := hw.block g h.1 hg
  refine ⟨Nat.lt_of_lt_of_le h.1 hw.size, fun p hp => ?_⟩
  rw [World.cell?_of_block (w := w) (a := ⟨g, p, none⟩) hb, World.frozen?_of_block (w := w) (a := ⟨g, p, none⟩) hb]
  exact h.2 p hp
theorem FineT.up {w : World} {z : Nat → Nat} {n : Nat} {T : Nat → Tx} {U : Nat → Value} (h : FineT w z n T U) : ∀ j, j ≤ n → ∀ i, i ≤ j → z i ≤ z j
  | 0, _, i, hi => by obtain rfl : i = 0 := by omega
                      exact Nat.le_refl _
  | j + 1, hj, i, hi => by
    by_cases q : i = j + 1
    · subst q; exact Nat.le_refl _
    · exact Nat.le_trans (h.up j (by omega) i (by omega)) (h j (by omega)).2.2
/-- What stands while transactions are numbered: the items of those from k on, and where they lie. -/
def MarkE (w : World) (g n : Nat) (T : Nat → Tx) (U : Nat → Value) (z : Nat → Nat) (k : Nat) (x : World) : Prop :=
  Fil x g (n * 6) (fun p => U (p / 6)) (fun p => p % 6 = 5) ∧ (∀ i, k ≤ i → i < n → Row x (z i) 3 (T i).m (T i).L (U i) ∧ Free x ((T i).m * 3) (U i)) ∧ Within g (z n) w x
theorem MarkE.over {w x : World} {g n : Nat} {T : Nat → Tx} {U : Nat → Value} {z : Nat → Nat} {k : Nat} (h : MarkE w g n T U z k x) (hz : ∀ i, i ≤ n → g < z i) {p : Nat} (hp : p < n * 6) (hd : p % 6 ≠ 5) (v : Value) : MarkE w g n T U z k (x.setCell ⟨g, p, none⟩ v) := by
  refine ⟨h.1.over hp hd v, fun i hi hn => ⟨(h.2.1 i hi hn).1.far (Or.inl (hz i (by omega))) v, (h.2.1 i hi hn).2.far _ _⟩, h.2.2.trans ⟨rfl, rfl, rfl, by simp [World.setCell], fun q hq ho => Below.heap_setCell x _ v q ?_⟩⟩
  have := hz n (Nat.le_refl _)
  show q ≠ g
  omega
theorem MarkE.over5 {w x : World} {g n : Nat} {T : Nat → Tx} {U : Nat → Value} {z : Nat → Nat} {k : Nat} (h : MarkE w g n T U z k x) (hz : ∀ i, i ≤ n → g < z i) (hk : k < n) (v0 v1 v2 v3 v4 : Value) :
    MarkE w g n T U z k (((((x.setCell ⟨g, k * 6, none⟩ v0).setCell ⟨g, k * 6 + 1, none⟩ v1).setCell ⟨g, k * 6 + 2, none⟩ v2).setCell ⟨g, k * 6 + 3, none⟩ v3).setCell ⟨g, k * 6 + 4, none⟩ v4) :=
  ((((h.over hz (by omega) (by omega) v0).over hz (by omega) (by omega) v1).over hz (by omega) (by omega) v2).over hz (by omega) (by omega) v3).over hz (by omega) (by omega) v4
theorem MarkE.next {w x x1 : World} {g n : Nat} {T : Nat → Tx} {U : Nat → Value} {z : Nat → Nat} {k : Nat} (h : MarkE w g n T U z k x) (hz : ∀ i, i ≤ n → g < z i) (hf : FineT w z n T U) (hk : k < n) (hw : Within (z k) (z (k + 1)) x x1) : MarkE w g n T U z (k + 1) x1 := by
  refine ⟨h.1.within hw (Or.inl (hz k (by omega))), fun i hi hn => ?_, h.2.2.trans (hw.mono (Nat.le_of_lt (hz k (by omega))) (hf.up n (Nat.le_refl _) (k + 1) hk))⟩
  have ho : 0 < (T i).m → ∀ q, (U i).ownBlock = some q → q < z k ∨ z (k + 1) ≤ q := fun h0 q hq => Or.inr (by
    have h1 := (hf i hn).2.1 h0 q hq
    have h2 := hf.up i (by omega) (k + 1) hi
    omega)
  exact ⟨(h.2.1 i (by omega) hn).1.within hw ho, (h.2.1 i (by omega) hn).2.within (h.2.1 i (by omega) hn).1 hw ho⟩
set_option maxRecDepth 100000 in
set_option maxHeartbeats 8000000 in
theorem markTxnS_any (n cp g : Nat) (T : Nat → Tx) (U : Nat → Value) (z : Nat → Nat) (k0 : Int) (w : World) (hF : FillT w g n n T U) (hf : FineT w z n T U) (hz : ∀ i, i ≤ n → g < z i) (hs : ∀ i, i < n → (T i).m ≤ 1048576) (ht : sumN (sizeX T) n ≤ 1048576) (h0 : 0 ≤ k0) (h1 : k0 ≤ 20000000) (hn : n ≤ 1048576) :
    Calls Tryz.prog 34 #[.slice (some ⟨g, 0, none⟩) n cp, .int .i64 k0] w fun e w' => e = .returned (.int .i64 (k0 + (sumN (markX T) n : Nat))) ∧ Within g (z n) w w' := by
  have HZ : Hid ((∀ i, i ≤ n → g < z i) ∧ FineT w z n T U) := ⟨hz, hf⟩
  have HN : Hid ((∀ i, i < n → (T i).m ≤ 1048576) ∧ ∀ k, k ≤ n → sumN (markX T) k ≤ 8388608) := ⟨hs, fun k hk => by have := sum_mono (markX T) hk; have := markX_le T n; omega⟩
  have HM : Hid (MarkE w g n T U z 0 w) := ⟨Fil.congr hF (fun p hp d => ⟨by omega, by
    show txV (T (p / 6)) (U (p / 6)) (p % 6) = U (p / 6)
    rw [d]
    rfl⟩), fun i _ hi => ⟨(hf i hi).1.1, (hf i hi).1.2.1⟩, Within.refl _ _ _⟩
  clear hF hf hz hs ht
  go_enter Tryz.func34, Tryz.ntmps34
  go_wp2
  go_loopw [1, 5] (fun j i wr => ∃ (k c : Nat), k ≤ n ∧ j = .int .i64 (k0 + (c : Nat)) ∧ i = .int .i64 k ∧ Hid (c = sumN (markX T) k) ∧ Hid (MarkE w g n T U z k wr)) (fun _ i _ => n - (intOf i).toNat)
  case atStart => exact ⟨0, 0, Nat.zero_le _, by simp, rfl, rfl, HM⟩
  case round =>
    clear HM
    obtain ⟨k, c, hk, rfl, rfl, HC, HR⟩ := hrel
    have hcb : c ≤ 8388608 := by rw [HC.out]; exact HN.out.2 k hk
    by_cases hlt : k < n
    · obtain ⟨⟨⟨x0, y0⟩, f0⟩, _⟩ := HR.out.1.2 (k * 6) (by omega)
      obtain ⟨⟨⟨x1, y1⟩, f1⟩, _⟩ := HR.out.1.2 (k * 6 + 1) (by omega)
      obtain ⟨⟨⟨x2, y2⟩, f2⟩, _⟩ := HR.out.1.2 (k * 6 + 2) (by omega)
      obtain ⟨⟨⟨x3, y3⟩, f3⟩, _⟩ := HR.out.1.2 (k * 6 + 3) (by omega)
      obtain ⟨⟨⟨x4, y4⟩, f4⟩, _⟩ := HR.out.1.2 (k * 6 + 4) (by omega)
      have y5 := (HR.out.1.2 (k * 6 + 5) (by omega)).2 (by omega)
      simp only [show (k * 6 + 5) / 6 = k by omega] at y5
      obtain ⟨uo, uc, hU⟩ := (HR.out.2.1 k (Nat.le_refl _) hlt).1.form
      have hm := HN.out.1 k hlt
      obtain ⟨m, hmm⟩ : ∃ m, (T k).m = m := ⟨_, rfl⟩
      rw [hU, hmm] at y5
      rw [hmm] at hm
      have HU : Hid (U k = .slice uo m uc ∧ (T k).m = m) := ⟨by rw [hU, hmm], hmm⟩
      clear hU hmm
      have HM5 : Hid (∀ v0 v1 v2 v3 v4, MarkE w g n T U z k (((((wr.setCell ⟨g, k * 6, none⟩ v0).setCell ⟨g, k * 6 + 1, none⟩ v1).setCell ⟨g, k * 6 + 2, none⟩ v2).setCell ⟨g, k * 6 + 3, none⟩ v3).setCell ⟨g, k * 6 + 4, none⟩ v4)) := fun v0 v1 v2 v3 v4 => HR.out.over5 HZ.out.1 hlt v0 v1 v2 v3 v4
      have HIT : Hid (∀ v0 v1 v2 v3 v4, Row (((((wr.setCell ⟨g, k * 6, none⟩ v0).setCell ⟨g, k * 6 + 1, none⟩ v1).setCell ⟨g, k * 6 + 2, none⟩ v2).setCell ⟨g, k * 6 + 3, none⟩ v3).setCell ⟨g, k * 6 + 4, none⟩ v4) (z k) 3 m (T k).L (.slice uo m uc) ∧ Free (((((wr.setCell ⟨g, k * 6, none⟩ v0).setCell ⟨g, k * 6 + 1, none⟩ v1).setCell ⟨g, k * 6 + 2, none⟩ v2).setCell ⟨g, k * 6 + 3, none⟩ v3).setCell ⟨g, k * 6 + 4, none⟩ v4) (m * 3) (.slice uo m uc)) := fun v0 v1 v2 v3 v4 => by
        have := (HM5.out v0 v1 v2 v3 v4).2.1 k (Nat.le_refl _) hlt
        rw [HU.out.1, HU.out.2] at this
        exact this
      have HOW : Hid (0 < m → ∀ q, (Value.slice uo m uc).ownBlock = some q → z k ≤ q ∧ q < z (k + 1)) := by
        have := (HZ.out.2 k hlt).2.1
        rw [HU.out.1, HU.out.2] at this
        exact this
      have HC1 : Hid (c + 5 + m * 3 = sumN (markX T) (k + 1)) := by
        unfold Hid
        show _ = sumN (markX T) k + (5 + (T k).m * 3)
        rw [HC.out, HU.out.2]
        omega
      go_wp2_with fail
      refine (markItemS_turn _ (z k) m (T k).L _ _ (HIT.out _ _ _ _ _).1 (HIT.out _ _ _ _ _).2 hm (by omega) (by omega)).mono ?_
      rintro e w1 ⟨rfl, _, _, g1⟩
      have HM1 : Hid (MarkE w g n T U z (k + 1) w1) := (HM5.out _ _ _ _ _).next HZ.out.1 HZ.out.2 hlt (Within.of g1 (fun b q => by obtain ⟨h0, h1⟩ := turn_eq q; exact HOW.out h0 b h1))
      clear g1 HIT HM5 HR y0 y1 y2 y3 y4 y5 f0 f1 f2 f3 f4
      go_wp2
      go_roundw
      case rel => exact ⟨k + 1, c + 5 + m * 3, by omega, by congr 1; push_cast; omega, by go_num, HC1, HM1⟩
      case measure => simp [intOf]; omega
    · obtain rfl : k = n := by omega
      go_wp2
      go_ret
      exact ⟨by rw [HC.out]; rfl, HR.out.2.2⟩
end Go.Proofs.YtdbcmckoiacemaaGreat

