/-
  Own text, merged of WrkB, TxsB, TxsC, TxsD, TxsF, OrcB, WldA, WldB, WldE, WldP, WldR, WldQ.
-/
import Derived.Test.YtphfiojhpfdpdaaGreatPk8
namespace Go.Proofs.YtphfiojhpfdpdaaGreat
open Go.RowKit

theorem infoz_ItemW : (Tryz.prog.info? 90).map (fun i => (i.zero, i.size, i.bytes)) = some (some (.agg #[.int .i64 0, .int .i64 0, .int .i64 0]), 3, 24) := by kernel_rfl
theorem infoz_TxnW : (Tryz.prog.info? 69).map (fun i => (i.zero, i.size, i.bytes)) = some (some (.agg #[.int .i64 0, .int .i64 0, .int .i64 0, .int .i64 0, .int .i64 0, .slice none 0 0]), 6, 64) := by kernel_rfl
/-- What stands while workOn works: the world that came in, in its box; the work in block b; its transactions so far. -/
structure WrkE (w : World) (b B2 : Nat) (nw nx bd : Int) (vr vs vt : Value) (n : Nat) (F : Nat → Int) (S : Nat → Sto) (g : Nat) (P : Nat → Nat) (k : Nat) (T : Nat → Tx) (Y : Nat → Value) (v : Value) (x : World) : Prop where
  below : Below w.heap.size w x
  kb : Blk5w x b (.int .i64 nw) (.int .i64 nx) (.int .i64 bd) (.slice (some ⟨g, 0, none⟩) n n) v
  work : Work x w.heap.size n F S (some ⟨g, 0, none⟩) P
  hb : w.heap.size ≤ b ∧ b < B2 ∧ B2 ≤ x.heap.size
  txs : WrkT x B2 k T Y v
  back : ∃ w1 : World, w1.heap.size = b ∧ Work w1 w.heap.size n F S (some ⟨g, 0, none⟩) P ∧ Below b w1 x
theorem WrkT.far {x : World} {B n : Nat} {T : Nat → Tx} {Y : Nat → Value} {v : Value} (h : WrkT x B n T Y v) {a : Addr} (ha : a.block < B) (u : Value) : WrkT (x.setCell a u) B n T Y v :=
  ⟨ownsRow_setCell_below h.own ha u, fun i hi => ⟨(h.items i hi).1.far (Or.inl ha) u, (h.items i hi).2.1, fun h0 k hk => by have := (h.items i hi).2.2 h0 k hk; simpa using this⟩, fun i hi => (h.free i hi).far _ _, h.apart⟩
theorem Blk5w.set4 {x : World} {b : Nat} {a0 a1 a2 a3 a4 : Value} (h : Blk5w x b a0 a1 a2 a3 a4) (u : Value) : Blk5w (x.setCell ⟨b, 4, none⟩ u) b a0 a1 a2 a3 u := by
  obtain ⟨⟨h0, h1, h2, h3, h4⟩, h5⟩ := h
  refine ⟨⟨?_, ?_, ?_, ?_, ?_⟩, fun j => ?_⟩
  · go_simp
  · go_simp
  · go_simp
  · go_simp
  · go_simp
  · rw [World.frozen?_setCell]; exact h5 j
/-- What stands in the loop: behind w1 lies the work, in block b. -/
structure WrkI (w1 : World) (nw nx bd : Int) (n : Nat) (g : Nat) (k : Nat) (T : Nat → Tx) (Y : Nat → Value) (v : Value) (x : World) : Prop where
  back : Below w1.heap.size w1 x
  kb : Blk5w x w1.heap.size (.int .i64 nw) (.int .i64 nx) (.int .i64 bd) (.slice (some ⟨g, 0, none⟩) n n) v
  txs : WrkT x (w1.heap.size + 1) k T Y v
theorem WrkI.later {w1 : World} {nw nx bd : Int} {n g k : Nat} {T : Nat → Tx} {Y : Nat → Value} {v : Value} {x x' : World} (h : WrkI w1 nw nx bd n g k T Y v x) (hb : Below x.heap.size x x') : WrkI w1 nw nx bd n g k T Y v x' := ⟨h.back.trans (hb.mono h.back.size), h.kb.later hb, h.txs.later hb⟩
set_option maxRecDepth 100000 in
set_option maxHeartbeats 8000000 in
theorem workOn_is (nw nx bd : Int) (nr : Nat) (F : Nat → Int) (n : Nat) (S : Nat → Sto) (V : Nat → Nat → Value) (vr vs : Value) (nt : Nat) (T : Nat → Tx) (X : Nat → Value) (vt : Value) (B : Nat) (w : World) (h : Grs w B nr F n S V vr vs) (hx : Txs w B nt T X vt) (hz : ∀ i, i < n → storeF (S i) = 0) (hn : n = nr) (hm : n ≤ 12) (hnt : nt ≤ 16) (hit : ∀ i, i < nt → 1 ≤ (T i).m ∧ (T i).m ≤ 12) :
    Calls Tryz.prog 34 #[.agg #[.int .i64 nw, .int .i64 nx, .int .i64 bd, vr, vs, vt]] w fun e w' => ∃ b B2 g P Y v, e = .returned (.pointer (some ⟨b, 0, none⟩)) ∧ WrkE w b B2 nw nx bd vr vs vt n F S g P nt T Y v w' := by
  obtain ⟨a0, c0, a1, c1, rfl, rfl⟩ := h.form
  obtain ⟨a2, c2, rfl⟩ := hx.form
  have H : Hid (Blk6 (w.alloc (.cells #[.int .i64 nw, .int .i64 nx, .int .i64 bd, .slice a0 nr c0, .slice a1 n c1, .slice a2 nt c2] 39)) w.heap.size (.int .i64 nw) (.int .i64 nx) (.int .i64 bd) (.slice a0 nr c0) (.slice a1 n c1) (.slice a2 nt c2) ∧ Below w.heap.size w (w.alloc (.cells #[.int .i64 nw, .int .i64 nx, .int .i64 bd, .slice a0 nr c0, .slice a1 n c1, .slice a2 nt c2] 39))) := ⟨Blk6.new w _ _ _ _ _ _ _, below_alloc _ _⟩
  have HG : Hid (Grs w B nr F n S V (.slice a0 nr c0) (.slice a1 n c1) ∧ Txs w B nt T X (.slice a2 nt c2)) := ⟨h, hx⟩
  have HZ : Hid ((∀ i, i < n → storeF (S i) = 0) ∧ n = nr) := ⟨hz, hn⟩
  have HIT : Hid (∀ i, i < nt → 1 ≤ (T i).m ∧ (T i).m ≤ 12) := hit
  clear h hx hz hn hit
  go_enter Tryz.func34, Tryz.ntmps34
  go_upto_region 1 with fail
  refine wp_region_held_drew (S := fun x : World => Blk6 x w.heap.size (.int .i64 nw) (.int .i64 nx) (.int .i64 bd) (.slice a0 nr c0) (.slice a1 n c1) (.slice a2 nt c2) ∧ Below w.heap.size w x) (by kernel_rfl) ⟨H.out.1, H.out.2.drew⟩ (fun hS => ?_)
  clear H
  refine tkH 0 ?_ hS (fun wx hx => ?_) ?_; rotate_left
  · obtain ⟨⟨⟨hx0, hx1, hx2, hx3, hx4, hx5⟩, _⟩, _⟩ := hx; go_simp; try with_reducible rfl
  refine tkH 1 ?_ hS (fun wx hx => ?_) ?_; rotate_left
  · obtain ⟨⟨⟨hx0, hx1, hx2, hx3, hx4, hx5⟩, _⟩, _⟩ := hx; go_simp; try with_reducible rfl
  refine tkH 2 ?_ hS (fun wx hx => ?_) ?_; rotate_left
  · obtain ⟨⟨⟨hx0, hx1, hx2, hx3, hx4, hx5⟩, _⟩, _⟩ := hx; go_simp; try with_reducible rfl
  refine tkH 3 ?_ hS (fun wx hx => ?_) ?_; rotate_left
  · obtain ⟨⟨⟨hx0, hx1, hx2, hx3, hx4, hx5⟩, _⟩, _⟩ := hx; go_simp; try with_reducible rfl
  refine tkH 4 ?_ hS (fun wx hx => ?_) ?_; rotate_left
  · obtain ⟨⟨⟨hx0, hx1, hx2, hx3, hx4, hx5⟩, _⟩, _⟩ := hx; go_simp; try with_reducible rfl
  refine tkH 5 ?_ hS (fun wx hx => ?_) ?_; rotate_left
  · obtain ⟨⟨⟨hx0, hx1, hx2, hx3, hx4, hx5⟩, _⟩, _⟩ := hx; go_simp; try with_reducible rfl
  refine rdH 6 (fun K hK => ?_)
  go_simp
  go_wp2_with fail
  refine (pointToAll_is nr F n S V _ _ B _ (HG.out.1.later hS.2) HZ.out.1 HZ.out.2 hm).mono ?_
  rintro e w1 ⟨g, P, rfl, hP, hT, q1⟩
  have hS1 : Blk6 w1 w.heap.size (.int .i64 nw) (.int .i64 nx) (.int .i64 bd) (.slice a0 nr c0) (.slice a1 n c1) (.slice a2 nt c2) ∧ Below w.heap.size w w1 := ⟨hS.1.later q1, hS.2.trans (q1.mono hS.2.size)⟩
  have HW1 : Hid (Work w1 w.heap.size n F S (some ⟨g, 0, none⟩) P ∧ Below w.heap.size w w1) := ⟨⟨hP, hT.mono hS.2.size⟩, hS.2.trans (q1.mono hS.2.size)⟩
  have HL1 : Hid (w.heap.size < w1.heap.size) := Nat.lt_of_lt_of_le hS.1.lt q1.size
  clear hS hP hT q1
  go_wp2_with fail
  refine hK.out _ _ hS1 (fun hS => ?_)
  clear hK K hS1
  refine tkH 7 ?_ hS (fun wx hx => ?_) ?_; rotate_left
  · obtain ⟨⟨⟨hx0, hx1, hx2, hx3, hx4, hx5⟩, _⟩, _⟩ := hx; go_simp; try with_reducible rfl
  refine rdH 8 (fun K hK => ?_)
  go_simp
  refine hK.out _ _ ⟨hS.1.alloc _, hS.2.alloc hS.2.size _⟩ (fun hS => ?_)
  clear hK K
  have E0 : Hid ((WrkI w1 nw nx bd n g 0 T (fun _ => .bool true) (.slice none 0 0)) (w1.alloc (.cells #[.int .i64 nw, .int .i64 nx, .int .i64 bd, .slice (some ⟨g, 0, none⟩) n n, .slice none 0 0] 81)) ∧ Blk6 (w1.alloc (.cells #[.int .i64 nw, .int .i64 nx, .int .i64 bd, .slice (some ⟨g, 0, none⟩) n n, .slice none 0 0] 81)) w.heap.size (.int .i64 nw) (.int .i64 nx) (.int .i64 bd) (.slice a0 nr c0) (.slice a1 n c1) (.slice a2 nt c2)) :=
    ⟨⟨below_alloc _ _, ⟨⟨World.cell?_alloc_mark w1 _ _ _ 0, World.cell?_alloc_mark w1 _ _ _ 1, World.cell?_alloc_mark w1 _ _ _ 2, World.cell?_alloc_mark w1 _ _ _ 3, World.cell?_alloc_mark w1 _ _ _ 4⟩, fun j => by simp⟩, ⟨World.ownsRow_nil _ _ _ _, fun i hi => absurd hi (Nat.not_lt_zero i), fun i hi => absurd hi (Nat.not_lt_zero i), fun i _ hi => absurd hi (Nat.not_lt_zero i)⟩⟩, hS.1⟩
  have hlw : w.heap.size < w1.heap.size := HL1.out
  refine tkH 9 ?_ hS (fun wx hx => ?_) ?_; rotate_left
  · obtain ⟨⟨⟨hx0, hx1, hx2, hx3, hx4, hx5⟩, _⟩, _⟩ := hx; go_simp; try with_reducible rfl
  clear hS HL1
  refine wpAnyH_done (by kernel_rfl) ?_ _
  go_simp
  obtain ⟨⟨p0, p1, p2, p3, p4, p5⟩, _⟩ := E0.out.2
  obtain ⟨i0, hi, iz0, iz1, iz2⟩ := info_parts infoz_ItemW
  obtain ⟨i1, hi1, jz0, jz1, jz2⟩ := info_parts infoz_TxnW
  go_wp2
  clear p0 p1 p2 p3 p4 p5
  go_loopw [18] (fun i wr => ∃ (k : Nat) (Y : Nat → Value) (v : Value), k ≤ nt ∧ i = .int .i64 k ∧ Hid (WrkI w1 nw nx bd n g k T Y v wr)) (fun i _ => nt - (intOf i).toNat)
  case atStart => exact ⟨0, _, _, Nat.zero_le _, rfl, E0.out.1⟩
  case round =>
    clear E0
    obtain ⟨k, Y, v, hk, rfl, HE⟩ := hrel
    by_cases hlt : k < nt
    case neg =>
      obtain rfl : k = nt := by omega
      go_wp2
      go_ret
      exact ⟨w1.heap.size, w1.heap.size + 1, g, P, Y, v, rfl, HW1.out.2.trans (HE.out.back.mono HW1.out.2.size), HE.out.kb, HW1.out.1.later HE.out.back, ⟨HW1.out.2.size, Nat.lt_succ_self _, HE.out.kb.lt⟩, HE.out.txs, w1, rfl, HW1.out.1, HE.out.back⟩
    have hmk := HIT.out k hlt
    obtain ⟨gx, ox, hax, _, hgx, ⟨x0, x1, x2, x3, x4, x5⟩, hrow, hcap⟩ := (HG.out.2.later (HW1.out.2.trans (HE.out.back.mono HW1.out.2.size))).at hlt
    subst hax
    obtain ⟨t, ht⟩ : ∃ t, T k = t := ⟨_, rfl⟩
    have HT : Hid (T k = t) := ht
    rw [ht] at x0 x1 x2 x3 x4 hrow hmk
    obtain ⟨y, hy⟩ : ∃ y, X k = y := ⟨_, rfl⟩
    rw [hy] at x5 hrow hcap
    clear ht hy
    obtain ⟨yo, yc, rfl⟩ := hrow.form
    have HR : Hid (Row wr B 3 t.m t.L (.slice yo t.m yc)) := hrow
    have hzb : w1.heap.size + 1 ≤ wr.heap.size := HE.out.kb.lt
    have HC0 : Hid (Blk6 (wr.alloc (.cells #[.int .i64 t.s, .int .i64 t.c, .int .i64 t.u, .int .i64 t.st, .int .i64 t.a, .slice yo t.m yc] 69)) wr.heap.size (.int .i64 t.s) (.int .i64 t.c) (.int .i64 t.u) (.int .i64 t.st) (.int .i64 t.a) (.slice yo t.m yc)) := Blk6.new wr _ _ _ _ _ _ _
    clear hrow hcap
    go_wp2_with (at_builtin; refine wpList_appX 90 i0 (.agg #[.int .i64 0, .int .i64 0, .int .i64 0]) 3 24 rfl _ _ 54 rfl Tryz.underlying54 hi iz0 iz1 iz2 rfl (by omega) (by omega) _ (w1.heap.size + 1) 0 [] (.slice none 0 0) rfl (OwnM.nil _ _ _ _) B t.m t.L (.slice yo t.m yc) rfl (HR.out.alloc _) (by omega) (by simp; omega) ?_; intro ao2 cp2 w2 O2 G2 B2; have KC := HC0.out.kept (G2.block _ (by simp) (fun e => by simp [Value.ownBlock] at e)); obtain ⟨⟨k0, k1, k2, k3, k4, k5⟩, f0, f1, f2, f3, f4, f5⟩ := KC)
    have GB : Below wr.heap.size wr w2 := (below_alloc wr _).trans ⟨G2.os, G2.tape, G2.output, by have := G2.size; simpa using this, fun i hi => G2.block i (by simp; omega) (fun e => by simp [Value.ownBlock] at e)⟩
    have KC2 := (HC0.out.kept (G2.block _ (by simp) (fun e => by simp [Value.ownBlock] at e))).set5 (.slice ao2 t.m cp2)
    rw [Nat.zero_add, List.nil_append] at O2
    rw [Nat.zero_add] at B2
    have hob : ∀ q, (Value.slice ao2 t.m cp2).ownBlock = some q → q = wr.heap.size + 1 := fun q hq => by
      rcases B2 with e | e
      · rw [hq] at e; simp [Value.ownBlock] at e
      · rw [hq] at e; simpa using e
    obtain ⟨w3, hw3⟩ : ∃ w3, w3 = w2.setCell ⟨wr.heap.size, 5, none⟩ (.slice ao2 t.m cp2) := ⟨_, rfl⟩
    rw [← hw3] at KC2
    rw [← hw3]
    have hcb : ∀ q, (Value.slice ao2 t.m cp2).ownBlock = some q → q ≠ wr.heap.size := fun q hq => by have := hob q hq; omega
    have B3 : Below wr.heap.size wr w3 := by rw [hw3]; exact GB.setCell (Nat.le_refl _) _
    have HE3 : Hid (WrkI w1 nw nx bd n g k T Y v w3) := HE.out.later B3
    have O3 : OwnM w3 (w1.heap.size + 1) 90 3 (.slice ao2 t.m cp2) t.m (nums t.L (t.m * 3)) := by rw [hw3]; exact O2.set hcb 5 _
    have hsz3 : wr.heap.size + 1 < w3.heap.size := by
      have hb3 := O3.block
      obtain ⟨q, hq⟩ : ∃ q, (Value.slice ao2 t.m cp2).ownBlock = some q := by
        rcases O3.2 with ⟨_, e⟩ | ⟨g', cap', cur', e, _⟩
        · omega
        · rw [e]; exact ⟨g', rfl⟩
      have := hob q hq
      have := (hb3 q hq).2
      omega
    have HIT3 : Hid (Row w3 (w1.heap.size + 1) 3 t.m t.L (.slice ao2 t.m cp2) ∧ CapOk (.slice ao2 t.m cp2) ∧ ∀ q, (Value.slice ao2 t.m cp2).ownBlock = some q → v.ownBlock ≠ some q ∧ q < w3.heap.size) := by
      refine ⟨?_, fun _ _ _ e => by cases e; exact O3.cap, fun q hq => ⟨fun e => by have := (HE.out.txs.own.lt q e).2; have := hob q hq; omega, (O3.block q hq).2⟩⟩
      have := (O3.own (nums_length _ _)).row.1
      obtain ⟨ao, cp, e, hr⟩ := this
      refine ⟨ao, cp, e, fun h0 => ?_⟩
      obtain ⟨g', o', e1, e2, e3, e4⟩ := hr h0
      exact ⟨g', o', e1, e2, e3, fun p hp => by rw [e4 p hp]; simp [nums, hp]⟩
    have HFA : Hid (Free w3 (t.m * 3) (.slice ao2 t.m cp2) ∧ ∀ i, i < k → 0 < (T i).m → ∀ q, (Y i).ownBlock = some q → (Value.slice ao2 t.m cp2).ownBlock ≠ some q) := ⟨(O3.own (nums_length _ _)).row.2, fun i hi h0 q hq e => by have := ((HE.out.txs.items i hi).2.2 h0 q hq).2; have := hob q e; omega⟩
    have HVC : Hid (∀ q, v.ownBlock = some q → q < wr.heap.size ∧ w1.heap.size + 1 ≤ q) := fun q hq => ⟨(HE.out.txs.own.lt q hq).2, (HE.out.txs.own.lt q hq).1⟩
    have HKC : Hid (Blk6 w3 wr.heap.size (.int .i64 t.s) (.int .i64 t.c) (.int .i64 t.u) (.int .i64 t.st) (.int .i64 t.a) (.slice ao2 t.m cp2)) := KC2
    clear KC2 O2 G2 B2 GB hob O3 hcb B3 HE k0 k1 k2 k3 k4 k5 f0 f1 f2 f3 f4 f5 hw3 HC0 HR x0 x1 x2 x3 x4 x5
    have BX : Hid (Below w3.heap.size w3 (w3.drew.alloc (.cells #[.int .i64 t.s, .int .i64 t.c, .int .i64 t.u, .int .i64 t.st, .int .i64 t.a, .slice ao2 t.m cp2] 69))) := (Below.drew (Below.refl _ _)).trans ((below_alloc _ _).mono (Nat.le_refl _))
    obtain ⟨g4, cap4, w4, hrun, hown4, hg4, hor, hlt4⟩ := run_append_lies (P := Tryz.prog) (w3.drew.alloc (.cells #[.int .i64 t.s, .int .i64 t.c, .int .i64 t.u, .int .i64 t.st, .int .i64 t.a, .slice ao2 t.m cp2] 69)) 37 37 (w1.heap.size + 1) 69 i1 (.agg #[.int .i64 0, .int .i64 0, .int .i64 0, .int .i64 0, .int .i64 0, .slice none 0 0]) 6 64 Tryz.underlying37 hi1 jz0 jz1 jz2 rfl (by omega) v k (tvals T Y k) (HE3.out.txs.later BX.out).own ⟨w3.heap.size, 0, none⟩ 1 1 [.int .i64 t.s, .int .i64 t.c, .int .i64 t.u, .int .i64 t.st, .int .i64 t.a, .slice ao2 t.m cp2] rfl (fun j u hj => by rw [Addr.add_lit, Nat.zero_add, World.cell?_alloc_at (w := w3.drew) _ _ w3.heap.size j rfl]; simpa using hj) (by intro u hu; simp only [List.mem_cons, List.not_mem_nil, or_false] at hu; rcases hu with rfl | rfl | rfl | rfl | rfl | rfl <;> rfl) (by omega) (by unfold maxLen; omega) (by omega) (by simp; omega) (w3.heap.size + 1) (by simp)
    have HRUN : Hid (∀ ty, (Builtin.append_ #[37, 37] ty #[v, .slice (some ⟨w3.heap.size, 0, none⟩) 1 1]).run Tryz.prog (w3.drew.alloc (.cells #[.int .i64 t.s, .int .i64 t.c, .int .i64 t.u, .int .i64 t.st, .int .i64 t.a, .slice ao2 t.m cp2] 69)) = .ok (.slice (some ⟨g4, 0, none⟩) (k + 1) cap4) w4) := fun ty => hrun
    have HW4 : Hid (WrkT w4 (w1.heap.size + 1) (k + 1) T (fun i => if i = k then .slice ao2 t.m cp2 else Y i) (.slice (some ⟨g4, 0, none⟩) (k + 1) cap4)) := by
      refine (HE3.out.txs.later BX.out).put ⟨by rw [HT.out]; exact HIT3.out.1.later BX.out, HIT3.out.2.1⟩ (fun _ q hq => ⟨(HIT3.out.2.2 q hq).1, Nat.lt_of_lt_of_le (HIT3.out.2.2 q hq).2 BX.out.size⟩) (by rw [HT.out]; exact HFA.out.1.ofRow HIT3.out.1 BX.out) (fun i hi h0 _ q hq => HFA.out.2 i hi h0 q hq) (by rw [HT.out]; exact hown4) hg4 (fun q hq => ?_)
      have e : g4 = q := by simpa [Value.ownBlock] using hq
      rcases hor with e1 | e1
      · exact Or.inl (by rw [e1, e])
      · exact Or.inr (by rw [← e, e1]; simp)
    have HK4 : Hid (Blk5w w4 w1.heap.size (.int .i64 nw) (.int .i64 nx) (.int .i64 bd) (.slice (some ⟨g, 0, none⟩) n n) v) := (HE3.out.kb.later BX.out).kept (hg4.block _ (by have := BX.out.size; omega) (fun e => by have := (HVC.out _ e.symm).2; omega))
    have HB4 : Hid (Below w1.heap.size w1 w4) := (HE3.out.back.trans (BX.out.mono HE3.out.back.size)).grown hg4 (by have := BX.out.size; omega) (fun r e => by have := (HVC.out r e).2; omega)
    have HKX : Hid (Blk6 (w3.drew.alloc (.cells #[.int .i64 t.s, .int .i64 t.c, .int .i64 t.u, .int .i64 t.st, .int .i64 t.a, .slice ao2 t.m cp2] 69)) wr.heap.size (.int .i64 t.s) (.int .i64 t.c) (.int .i64 t.u) (.int .i64 t.st) (.int .i64 t.a) (.slice ao2 t.m cp2)) := HKC.out.later BX.out
    have HKC4 : Hid (Blk6 w4 wr.heap.size (.int .i64 t.s) (.int .i64 t.c) (.int .i64 t.u) (.int .i64 t.st) (.int .i64 t.a) (.slice ao2 t.m cp2)) := HKX.out.kept (hg4.block _ (by have := BX.out.size; omega) (fun e => by have := (HVC.out _ e.symm).1; omega))
    have vform : ∃ va vc, v = .slice va k vc := by
      rcases HE3.out.txs.own.2 with ⟨e, e0⟩ | ⟨g', cap', cur', e, _⟩
      · exact ⟨none, 0, by rw [e, e0]⟩
      · exact ⟨_, _, e⟩
    obtain ⟨va, vc, rfl⟩ := vform
    obtain ⟨⟨b0, b1, b2, b3, b4⟩, _⟩ := HE3.out.kb
    have hl13 : w1.heap.size < w3.heap.size := by omega
    have hS0 : (fun X : World => Blk6 X wr.heap.size (.int .i64 t.s) (.int .i64 t.c) (.int .i64 t.u) (.int .i64 t.st) (.int .i64 t.a) (.slice ao2 t.m cp2)) w3.drew := HKC.out
    clear hown4 hg4 hor hlt4 hrun BX HIT3 HE3 HKC HFA
    go_upto_region 6 with fail
    refine wp_region_held_drew (S := (fun X : World => Blk6 X wr.heap.size (.int .i64 t.s) (.int .i64 t.c) (.int .i64 t.u) (.int .i64 t.st) (.int .i64 t.a) (.slice ao2 t.m cp2))) (by kernel_rfl) hS0 (fun hS => ?_)
    clear hS0
    refine tkH 0 ?_ hS (fun wx hx => ?_) ?_; rotate_left
    · obtain ⟨⟨hx0, hx1, hx2, hx3, hx4, hx5⟩, _⟩ := hx; go_simp; try with_reducible rfl
    refine tkH 1 ?_ hS (fun wx hx => ?_) ?_; rotate_left
    · obtain ⟨⟨hx0, hx1, hx2, hx3, hx4, hx5⟩, _⟩ := hx; go_simp; try with_reducible rfl
    refine tkH 2 ?_ hS (fun wx hx => ?_) ?_; rotate_left
    · obtain ⟨⟨hx0, hx1, hx2, hx3, hx4, hx5⟩, _⟩ := hx; go_simp; try with_reducible rfl
    refine tkH 3 ?_ hS (fun wx hx => ?_) ?_; rotate_left
    · obtain ⟨⟨hx0, hx1, hx2, hx3, hx4, hx5⟩, _⟩ := hx; go_simp; try with_reducible rfl
    refine tkH 5 ?_ hS (fun wx hx => ?_) ?_; rotate_left
    · obtain ⟨⟨hx0, hx1, hx2, hx3, hx4, hx5⟩, _⟩ := hx; go_simp; try with_reducible rfl
    refine wpAnyH_ready (rs := [4, 6]) (by kernel_rfl) (by simp) ?_
    refine AllReadyH.cons rfl (fun K hK => ?_) (AllReadyH.cons rfl (fun K hK => ?_) AllReadyH.nil)
    focus
      go_simp
      refine hK.out _ _ hS (fun hS => ?_)
      clear hK K
      refine rdH 6 (fun K hK => ?_)
      go_simp
      refine hK.out _ _ HKX.out (fun hS => ?_)
    rotate_left
    focus
      go_simp
      refine hK.out _ _ HKX.out (fun hS => ?_)
      clear hK K
      refine rdH 4 (fun K hK => ?_)
      go_simp
      refine hK.out _ _ hS (fun hS => ?_)
    rotate_left
    all_goals
      clear hK K
      clear b0 b1 b2 b3 b4
      refine rdH 7 (fun K hK => ?_)
      refine step_appInM rfl _ _ 37 37 rfl _ _ (by simp [Act.eval]) (by simp [Act.eval]) (HRUN.out _) ?_
      refine hK.out _ _ HKC4.out (fun hS => ?_)
      clear hK K
      refine tkH 8 ?_ hS (fun wx hx => ?_) ?_; rotate_left
      · obtain ⟨⟨hx0, hx1, hx2, hx3, hx4, hx5⟩, _⟩ := hx; go_simp; try with_reducible rfl
      refine tkH 9 ?_ hS (fun wx hx => ?_) ?_; rotate_left
      · obtain ⟨⟨hx0, hx1, hx2, hx3, hx4, hx5⟩, _⟩ := hx; go_simp; try with_reducible rfl
      refine rdH 10 (fun K hK => ?_)
      obtain ⟨⟨z0, z1, z2, z3, z4⟩, zf⟩ := HK4.out
      have zf4 := zf 4
      go_simp
      refine hK.out _ _ (hS.kept (Below.heap_setCell _ ⟨w1.heap.size, 4, none⟩ _ _ (by simp; omega))) (fun hS => ?_)
      clear hK K z0 z1 z2 z3 z4 zf zf4
      refine wpAnyH_done (by kernel_rfl) ?_ _
      go_simp
      go_wp2
      go_roundw
      case rel => exact ⟨k + 1, _, _, by omega, by go_num, HB4.out.setCell (Nat.le_refl _) _, HK4.out.set4 _, HW4.out.far (by simp) _⟩
      case measure => simp [intOf]; omega
end Go.Proofs.YtphfiojhpfdpdaaGreat

namespace Go.Proofs.YtphfiojhpfdpdaaGreat
open Go.RowKit

def sizeX (T : Nat → Tx) (i : Nat) : Nat := (T i).m
def SxAns (n : Nat) (T : Nat → Tx) (left r : Int) : Prop := r = -1 ∨ (0 ≤ r ∧ n ≤ 1048576 ∧ ((sumN (sizeX T) n : Nat) : Int) ≤ left ∧ ∀ i, i < n → (T i).m ≤ 1048576)
set_option maxRecDepth 100000 in
set_option maxHeartbeats 4000000 in
theorem szTxnS_any (n : Nat) (T : Nat → Tx) (V : Nat → Value) (v : Value) (B : Nat) (left : Int) (w : World) (h : Txs w B n T V v) (hn : n ≤ 9223372036854775807) (hs : ∀ i, i < n → (T i).m ≤ 9223372036854775807) (h0 : 0 ≤ left) (h2 : left ≤ 1048576) :
    Calls Tryz.prog 24 #[v, .int .i64 left] w fun e w' => ∃ r, e = .returned (.int .i64 r) ∧ SxAns n T left r ∧ Below w.heap.size w w' := by
  obtain ⟨ao, cp, rfl⟩ := h.form
  have H : Hid (Txs w B n T V (.slice ao n cp)) := h
  have HN : Hid (∀ i, i < n → (T i).m ≤ 9223372036854775807) := hs
  clear h hs
  by_cases hl : left < n
  · have d : decide (left - n < 0) = true := decide_eq_true (by omega)
    go_enter Tryz.func24, Tryz.ntmps24
    go_wp2
    go_ret
    exact ⟨-1, rfl, Or.inl rfl, Below.refl _ _⟩
  have d : decide (left - n < 0) = false := decide_eq_false (by omega)
  go_enter Tryz.func24, Tryz.ntmps24
  go_wp2
  go_loopw [1, 5] (fun j i wr => ∃ (k : Nat) (L : Int), k ≤ n ∧ j = .int .i64 L ∧ i = .int .i64 k ∧ Hid ((0 ≤ L ∧ L + (sumN (sizeX T) k : Nat) ≤ left) ∧ ∀ i, i < k → (T i).m ≤ 1048576) ∧ Hid (Below w.heap.size w wr)) (fun _ i _ => n - (intOf i).toNat)
  case atStart => exact ⟨0, left - n, Nat.zero_le _, rfl, rfl, ⟨by simp only [sumN]; omega, fun i hi => absurd hi (Nat.not_lt_zero i)⟩, Below.refl _ _⟩
  case round =>
    obtain ⟨k, L, hk, rfl, rfl, hL, hR⟩ := hrel
    by_cases hlt : k < n
    · obtain ⟨g, o, rfl, _, hg, ⟨c0, c1, c2, c3, c4, c5⟩, rk, _⟩ := H.out.at hlt
      have b0 := (hR.out.cell (p := ⟨g, o + k * 6, none⟩) hg).trans c0
      have b1 := (hR.out.cell (p := ⟨g, o + k * 6 + 1, none⟩) hg).trans c1
      have b2 := (hR.out.cell (p := ⟨g, o + k * 6 + 2, none⟩) hg).trans c2
      have b3 := (hR.out.cell (p := ⟨g, o + k * 6 + 3, none⟩) hg).trans c3
      have b4 := (hR.out.cell (p := ⟨g, o + k * 6 + 4, none⟩) hg).trans c4
      have b5 := (hR.out.cell (p := ⟨g, o + k * 6 + 5, none⟩) hg).trans c5
      obtain ⟨a1, d1, e1⟩ := rk.form
      rw [e1] at b5
      clear c0 c1 c2 c3 c4 c5 rk e1
      have hB : Hid ((T k).m ≤ 9223372036854775807) := HN.out k hlt
      obtain ⟨t0, ht⟩ : ∃ t, T k = t := ⟨_, rfl⟩
      have HK : Hid (T k = t0) := ht
      rw [ht] at b0 b1 b2 b3 b4 b5 hB
      obtain ⟨s', c', u', st', a', m', L'⟩ := t0
      clear ht
      by_cases hfit : (m' : Int) ≤ L
      · go_wp2_with fail
        refine (szTxn_ok _ _ _ _ _ _ _ _ _ _ hfit (by have := hL.out.1; omega)).mono ?_
        rintro e w1 ⟨rfl, q1⟩
        have HB : Hid (Below w.heap.size w w1) := hR.out.trans (q1.mono hR.out.size)
        have dd : decide (L - m' < 0) = false := decide_eq_false (by omega)
        clear q1 hR b0 b1 b2 b3 b4 b5
        go_wp2
        go_roundw
        case rel =>
          have hst : sumN (sizeX T) (k + 1) = sumN (sizeX T) k + m' := by show sumN (sizeX T) k + (T k).m = _; rw [HK.out]
          refine ⟨k + 1, L - m', by omega, by go_num, by go_num, ⟨by have := hL.out.1; rw [hst]; omega, fun i hi => ?_⟩, HB⟩
          by_cases q : i = k
          · subst q
            have h1 := hL.out.1
            rw [HK.out]
            show m' ≤ 1048576
            omega
          · exact hL.out.2 i (by omega)
        case measure => simp [intOf]; omega
      · go_wp2_with fail
        refine (szTxn_no _ _ _ _ _ _ _ _ _ _ (by omega) hL.out.1.1 (by have := hL.out.1; omega) hB.out).mono ?_
        rintro e w1 ⟨rfl, q1⟩
        have HB : Hid (Below w.heap.size w w1) := hR.out.trans (q1.mono hR.out.size)
        clear q1 hR b0 b1 b2 b3 b4 b5
        go_wp2
        go_ret
        exact ⟨-1, rfl, Or.inl rfl, HB.out⟩
    · obtain rfl : k = n := by omega
      go_wp2
      go_ret
      exact ⟨L, rfl, Or.inr ⟨hL.out.1.1, by omega, by have := hL.out.1; omega, hL.out.2⟩, hR.out⟩
/-- Two transactions at a place. -/
def Two6 (w : World) (g o g' o' k : Nat) (t : Tx) (u u' : Value) (x : World) : Prop :=
  Below w.heap.size w x ∧ (x.cell? ⟨g, o + k * 6, none⟩ = some (.int .i64 t.s) ∧ x.cell? ⟨g, o + k * 6 + 1, none⟩ = some (.int .i64 t.c) ∧ x.cell? ⟨g, o + k * 6 + 2, none⟩ = some (.int .i64 t.u) ∧ x.cell? ⟨g, o + k * 6 + 3, none⟩ = some (.int .i64 t.st) ∧ x.cell? ⟨g, o + k * 6 + 4, none⟩ = some (.int .i64 t.a) ∧ x.cell? ⟨g, o + k * 6 + 5, none⟩ = some u) ∧
    (x.cell? ⟨g', o' + k * 6, none⟩ = some (.int .i64 t.s) ∧ x.cell? ⟨g', o' + k * 6 + 1, none⟩ = some (.int .i64 t.c) ∧ x.cell? ⟨g', o' + k * 6 + 2, none⟩ = some (.int .i64 t.u) ∧ x.cell? ⟨g', o' + k * 6 + 3, none⟩ = some (.int .i64 t.st) ∧ x.cell? ⟨g', o' + k * 6 + 4, none⟩ = some (.int .i64 t.a) ∧ x.cell? ⟨g', o' + k * 6 + 5, none⟩ = some u') ∧ g < x.heap.size ∧ g' < x.heap.size
theorem Two6.later {w : World} {g o g' o' k : Nat} {t : Tx} {u u' : Value} {x x' : World} (h : Two6 w g o g' o' k t u u' x) (hb : Below x.heap.size x x') : Two6 w g o g' o' k t u u' x' := by
  obtain ⟨h0, ⟨a0, a1, a2, a3, a4, a5⟩, ⟨b0, b1, b2, b3, b4, b5⟩, hg, hg'⟩ := h
  have k1 : ∀ p, x'.cell? ⟨g, p, none⟩ = x.cell? ⟨g, p, none⟩ := fun p => hb.cell (p := ⟨g, p, none⟩) hg
  have k2 : ∀ p, x'.cell? ⟨g', p, none⟩ = x.cell? ⟨g', p, none⟩ := fun p => hb.cell (p := ⟨g', p, none⟩) hg'
  exact ⟨h0.trans (hb.mono h0.size), ⟨(k1 _).trans a0, (k1 _).trans a1, (k1 _).trans a2, (k1 _).trans a3, (k1 _).trans a4, (k1 _).trans a5⟩, ⟨(k2 _).trans b0, (k2 _).trans b1, (k2 _).trans b2, (k2 _).trans b3, (k2 _).trans b4, (k2 _).trans b5⟩, Nat.lt_of_lt_of_le hg hb.size, Nat.lt_of_lt_of_le hg' hb.size⟩
set_option maxRecDepth 100000 in
set_option maxHeartbeats 4000000 in
theorem eqTxnS_same (n : Nat) (T : Nat → Tx) (V U : Nat → Value) (va vb : Value) (Ba Bb : Nat) (w : World) (ha : Txs w Ba n T V va) (hb : Txs w Bb n T U vb) (hn : n ≤ 1048576) (hs : ∀ i, i < n → (T i).m ≤ 1048576) :
    Calls Tryz.prog 38 #[va, vb] w fun e w' => e = .returned (.bool true) ∧ Below w.heap.size w w' := by
  obtain ⟨ao, cp, rfl⟩ := ha.form
  obtain ⟨ao', cp', rfl⟩ := hb.form
  have H : Hid (Txs w Ba n T V (.slice ao n cp)) := ha
  have H' : Hid (Txs w Bb n T U (.slice ao' n cp')) := hb
  have HN : Hid (∀ i, i < n → (T i).m ≤ 1048576) := hs
  clear ha hb hs
  go_enter Tryz.func38, Tryz.ntmps38
  go_wp2
  go_loopw [5] (fun i wr => ∃ k : Nat, k ≤ n ∧ i = .int .i64 k ∧ Hid (Below w.heap.size w wr)) (fun i _ => n - (intOf i).toNat)
  case atStart => exact ⟨0, Nat.zero_le _, rfl, Below.refl _ _⟩
  case round =>
    obtain ⟨k, hk, rfl, hR⟩ := hrel
    by_cases hlt : k < n
    · obtain ⟨g, o, rfl, _, hg, hc, rk, _⟩ := (H.out.later hR.out).at hlt
      obtain ⟨g', o', rfl, _, hg', hc', rk', _⟩ := (H'.out.later hR.out).at hlt
      obtain ⟨a1, d1, e1⟩ := rk.form
      obtain ⟨a1', d1', e1'⟩ := rk'.form
      rw [e1] at hc rk
      rw [e1'] at hc' rk'
      have hN : Hid ((T k).m ≤ 1048576) := HN.out k hlt
      obtain ⟨t0, ht⟩ : ∃ t, T k = t := ⟨_, rfl⟩
      rw [ht] at hc hc' rk rk' hN
      have SK : Hid (Row wr Ba 3 t0.m t0.L (.slice a1 t0.m d1) ∧ Row wr Bb 3 t0.m t0.L (.slice a1' t0.m d1')) := ⟨rk, rk'⟩
      have TT : Hid (Two6 w g o g' o' k t0 (.slice a1 t0.m d1) (.slice a1' t0.m d1') wr) := ⟨hR.out, hc, hc', hg, hg'⟩
      obtain ⟨s', c', u', st', a', m', L'⟩ := t0
      clear ht rk rk' hc hc' hg hg' e1 e1'
      go_wp2_with fail
      refine wp_region_held_drew (S := Two6 w g o g' o' k ⟨s', c', u', st', a', m', L'⟩ (.slice a1 m' d1) (.slice a1' m' d1')) (by kernel_rfl) (TT.out.later (Below.drew (Below.refl _ _))) (fun hS => ?_)
      refine tkH 0 ?_ hS (fun wx hx => ?_) ?_; rotate_left
      · obtain ⟨_, ⟨hx0, hx1, hx2, hx3, hx4, hx5⟩, ⟨hy0, hy1, hy2, hy3, hy4, hy5⟩, _⟩ := hx; go_simp; try with_reducible rfl
      refine tkH 1 ?_ hS (fun wx hx => ?_) ?_; rotate_left
      · obtain ⟨_, ⟨hx0, hx1, hx2, hx3, hx4, hx5⟩, ⟨hy0, hy1, hy2, hy3, hy4, hy5⟩, _⟩ := hx; go_simp; try with_reducible rfl
      refine tkH 2 ?_ hS (fun wx hx => ?_) ?_; rotate_left
      · obtain ⟨_, ⟨hx0, hx1, hx2, hx3, hx4, hx5⟩, ⟨hy0, hy1, hy2, hy3, hy4, hy5⟩, _⟩ := hx; go_simp; try with_reducible rfl
      refine tkH 3 ?_ hS (fun wx hx => ?_) ?_; rotate_left
      · obtain ⟨_, ⟨hx0, hx1, hx2, hx3, hx4, hx5⟩, ⟨hy0, hy1, hy2, hy3, hy4, hy5⟩, _⟩ := hx; go_simp; try with_reducible rfl
      refine tkH 4 ?_ hS (fun wx hx => ?_) ?_; rotate_left
      · obtain ⟨_, ⟨hx0, hx1, hx2, hx3, hx4, hx5⟩, ⟨hy0, hy1, hy2, hy3, hy4, hy5⟩, _⟩ := hx; go_simp; try with_reducible rfl
      refine tkH 5 ?_ hS (fun wx hx => ?_) ?_; rotate_left
      · obtain ⟨_, ⟨hx0, hx1, hx2, hx3, hx4, hx5⟩, ⟨hy0, hy1, hy2, hy3, hy4, hy5⟩, _⟩ := hx; go_simp; try with_reducible rfl
      refine tkH 6 ?_ hS (fun wx hx => ?_) ?_; rotate_left
      · obtain ⟨_, ⟨hx0, hx1, hx2, hx3, hx4, hx5⟩, ⟨hy0, hy1, hy2, hy3, hy4, hy5⟩, _⟩ := hx; go_simp; try with_reducible rfl
      refine tkH 7 ?_ hS (fun wx hx => ?_) ?_; rotate_left
      · obtain ⟨_, ⟨hx0, hx1, hx2, hx3, hx4, hx5⟩, ⟨hy0, hy1, hy2, hy3, hy4, hy5⟩, _⟩ := hx; go_simp; try with_reducible rfl
      refine rdH 8 (fun K hK => ?_)
      go_simp
      go_wp2_with fail
      refine (eqTxn_same s' c' u' st' a' m' L' _ _ Ba Bb _ (SK.out.1.later (below_dr (Below.refl _ _) 1)) (SK.out.2.later (below_dr (Below.refl _ _) 1)) hN.out).mono ?_
      rintro e w1 ⟨rfl, q1⟩
      have hS' := hS.later q1
      clear q1
      go_wp2_with fail
      refine hK.out _ _ hS' (fun hS => ?_)
      clear hK K hS' TT
      refine tkH 9 ?_ hS (fun wx hx => ?_) ?_; rotate_left
      · obtain ⟨_, ⟨hx0, hx1, hx2, hx3, hx4, hx5⟩, ⟨hy0, hy1, hy2, hy3, hy4, hy5⟩, _⟩ := hx; go_simp; try with_reducible rfl
      refine wpAnyH_done (by kernel_rfl) ?_ _
      have HB : Hid (Below w.heap.size w w1) := hS.1
      clear hS hR SK
      go_simp
      go_wp2
      go_roundw
      case rel => exact ⟨k + 1, by omega, by go_num, HB⟩
      case measure => simp [intOf]; omega
    · obtain rfl : k = n := by omega
      go_wp2
      go_ret
      exact ⟨rfl, hR.out⟩
end Go.Proofs.YtphfiojhpfdpdaaGreat

namespace Go.Proofs.YtphfiojhpfdpdaaGreat
open Go.RowKit

set_option maxRecDepth 100000 in
set_option maxHeartbeats 4000000 in
theorem szStoreS_lim (n : Nat) (S : Nat → Sto) (V : Nat → Nat → Value) (v : Value) (B : Nat) (left : Int) (w : World) (h : Stos w B n S V v) (hn : n ≤ 9223372036854775807) (hs : ∀ i, i < n → BigS (S i)) (h0 : 0 ≤ left) (h2 : left ≤ 1048576) :
    Calls Tryz.prog 51 #[v, .int .i64 left] w fun e w' => ∃ r, e = .returned (.int .i64 r) ∧ (SzAns n S left r ∧ r ≤ left) ∧ Below w.heap.size w w' := by
  obtain ⟨ao, cp, rfl⟩ := h.form
  have H : Hid (Stos w B n S V (.slice ao n cp)) := h
  have HN : Hid (∀ i, i < n → BigS (S i)) := hs
  clear h hs
  by_cases hl : left < n
  · have d : decide (left - n < 0) = true := decide_eq_true (by omega)
    go_enter Tryz.func51, Tryz.ntmps51
    go_wp2
    go_ret
    exact ⟨-1, rfl, ⟨Or.inl rfl, by omega⟩, Below.refl _ _⟩
  have d : decide (left - n < 0) = false := decide_eq_false (by omega)
  go_enter Tryz.func51, Tryz.ntmps51
  go_wp2
  go_loopw [1, 5] (fun j i wr => ∃ (k : Nat) (L : Int), k ≤ n ∧ j = .int .i64 L ∧ i = .int .i64 k ∧ Hid ((0 ≤ L ∧ L + (sumN (sizeT S) k : Nat) ≤ left) ∧ ∀ i, i < k → SmallS (S i)) ∧ Hid (Below w.heap.size w wr)) (fun _ i _ => n - (intOf i).toNat)
  case atStart => exact ⟨0, left - n, Nat.zero_le _, rfl, rfl, ⟨by simp only [sumN]; omega, fun i hi => absurd hi (Nat.not_lt_zero i)⟩, Below.refl _ _⟩
  case round =>
    obtain ⟨k, L, hk, rfl, rfl, hL, hR⟩ := hrel
    by_cases hlt : k < n
    · obtain ⟨g, o, rfl, _, hg, ⟨c0, c1, c2⟩, sk⟩ := H.out.at hlt
      have b0 := hR.out.cell (p := ⟨g, o + k * 3, none⟩) hg
      rw [c0] at b0
      have b1 := hR.out.cell (p := ⟨g, o + k * 3 + 1, none⟩) hg
      rw [c1] at b1
      have b2 := hR.out.cell (p := ⟨g, o + k * 3 + 2, none⟩) hg
      rw [c2] at b2
      clear c0 c1 c2
      obtain ⟨a0, d0, a1, d1, a2, d2, e0, e1, e2⟩ := sk.form
      rw [e0] at b0
      rw [e1] at b1
      rw [e2] at b2
      clear sk e0 e1 e2
      obtain ⟨n0, hn0⟩ : ∃ x, (S k).nc = x := ⟨_, rfl⟩
      obtain ⟨n1, hn1⟩ : ∃ x, (S k).nl = x := ⟨_, rfl⟩
      obtain ⟨n2, hn2⟩ : ∃ x, (S k).nw = x := ⟨_, rfl⟩
      rw [hn0] at b0
      rw [hn1] at b1
      rw [hn2] at b2
      have hB : Hid (n0 ≤ 9223372036854775807 ∧ n1 ≤ 9223372036854775807 ∧ n2 ≤ 9223372036854775807) := by
        have := HN.out k hlt
        unfold BigS at this
        rw [hn0, hn1, hn2] at this
        exact this
      have hE : Hid ((S k).nc = n0 ∧ (S k).nl = n1 ∧ (S k).nw = n2) := ⟨hn0, hn1, hn2⟩
      clear hn0 hn1 hn2
      by_cases hfit : (n0 : Int) + n1 + n2 ≤ L
      · go_wp2_with fail
        refine (szStore_ok L _ _ _ _ _ _ _ _ _ _ hfit hL.out.1.1 (by have := hL.out.1; omega) hB.out.1 hB.out.2.1 hB.out.2.2).mono ?_
        rintro e w1 ⟨rfl, q1⟩
        have HB : Hid (Below w.heap.size w w1) := hR.out.trans (q1.mono hR.out.size)
        have dd : decide (L - n0 - n1 - n2 < 0) = false := decide_eq_false (by omega)
        clear q1 hR b0 b1 b2
        go_wp2
        go_roundw
        case rel =>
          have hst : sumN (sizeT S) (k + 1) = sumN (sizeT S) k + (n0 + n1 + n2) := by show sumN (sizeT S) k + ((S k).nc + (S k).nl + (S k).nw) = _; rw [hE.out.1, hE.out.2.1, hE.out.2.2]
          refine ⟨k + 1, L - n0 - n1 - n2, by omega, by go_num, by go_num, ⟨by have := hL.out.1; rw [hst]; omega, fun i hi => ?_⟩, HB⟩
          by_cases q : i = k
          · subst q
            have h1 := hL.out.1
            unfold SmallS
            rw [hE.out.1, hE.out.2.1, hE.out.2.2]
            omega
          · exact hL.out.2 i (by omega)
        case measure => simp [intOf]; omega
      · go_wp2_with fail
        refine (szStore_no L _ _ _ _ _ _ _ _ _ _ (by omega) hL.out.1.1 (by have := hL.out.1; omega) hB.out.1 hB.out.2.1 hB.out.2.2).mono ?_
        rintro e w1 ⟨rfl, q1⟩
        have HB : Hid (Below w.heap.size w w1) := hR.out.trans (q1.mono hR.out.size)
        clear q1 hR b0 b1 b2
        go_wp2
        go_ret
        exact ⟨-1, rfl, ⟨Or.inl rfl, by omega⟩, HB.out⟩
    · obtain rfl : k = n := by omega
      go_wp2
      go_ret
      exact ⟨L, rfl, ⟨Or.inr ⟨hL.out.1.1, by omega, by have := hL.out.1; omega, hL.out.2⟩, by have := hL.out.1; omega⟩, hR.out⟩

set_option maxHeartbeats 1000000 in
theorem szGroups_lim (nr : Nat) (F : Nat → Int) (n : Nat) (S : Nat → Sto) (V : Nat → Nat → Value) (vr vs : Value) (B : Nat) (w : World) (h : Grs w B nr F n S V vr vs) (hr : nr ≤ 9223372036854775807) (hn : n ≤ 9223372036854775807) (hs : ∀ i, i < n → BigS (S i)) :
    Calls Tryz.prog 23 #[.agg #[vr, vs], .int .i64 1048576] w fun e w' => ∃ r, e = .returned (.int .i64 r) ∧ (r = -1 ∨ (0 ≤ r ∧ nr ≤ 1048576 ∧ (n ≤ 1048576 ∧ sumN (sizeT S) n ≤ 1048576) ∧ ∀ i, i < n → SmallS (S i))) ∧ r ≤ 1048576 ∧ Below w.heap.size w w' := by
  obtain ⟨a0, c0, a1, c1, rfl, rfl⟩ := h.form
  have H : Hid (Grs w B nr F n S V (.slice a0 nr c0) (.slice a1 n c1)) := h
  have HN : Hid (∀ i, i < n → BigS (S i)) := hs
  clear h hs
  by_cases hl : (1048576 : Int) < nr
  · go_enter Tryz.func23, Tryz.ntmps23
    go_wp2_with fail
    refine (szRangeS_no _ _ _ 1048576 _ hl (by omega) (by omega) hr).mono ?_
    rintro e w1 ⟨rfl, rfl⟩
    go_wp2
    go_ret
    exact ⟨-1, rfl, Or.inl rfl, by omega, below_alloc _ _⟩
  go_enter Tryz.func23, Tryz.ntmps23
  go_wp2_with fail
  refine (szRangeS_ok _ _ _ 1048576 _ (by omega) (by omega)).mono ?_
  rintro e w1 ⟨rfl, hw1⟩
  have d : decide ((1048576 : Int) - nr < 0) = false := decide_eq_false (by omega)
  have k1 : Blk2 w1 w.heap.size (.slice a0 nr c0) (.slice a1 n c1) := by rw [hw1]; exact Blk2.new w _ _ _
  have B1 : Hid (Below w.heap.size w w1) := by rw [hw1]; exact below_alloc _ _
  clear hw1
  obtain ⟨⟨_, x1⟩, _⟩ := k1
  go_wp2_with fail
  refine (szStoreS_lim n S V _ B (1048576 - nr) _ (H.out.2.later B1.out) hn HN.out (by omega) (by omega)).mono ?_
  rintro e w2 ⟨r, rfl, ⟨hA, hle⟩, q2⟩
  have B2 : Hid (Below w.heap.size w w2) := B1.out.trans (q2.mono B1.out.size)
  clear q2 x1
  rcases hA with rfl | ⟨h1, h3, h2, h4⟩
  · go_wp2
    go_ret
    exact ⟨-1, rfl, Or.inl rfl, by omega, B2.out⟩
  · have dr : decide (r < 0) = false := decide_eq_false (by omega)
    have HA : Hid (∀ i, i < n → SmallS (S i)) := h4
    clear h4
    go_wp2
    go_ret
    exact ⟨r, rfl, Or.inr ⟨h1, by omega, ⟨h3, by omega⟩, HA.out⟩, by omega, B2.out⟩
set_option maxRecDepth 100000 in
set_option maxHeartbeats 2000000 in
theorem szWorld_any (nw nx bd : Int) (nr : Nat) (F : Nat → Int) (n : Nat) (S : Nat → Sto) (V : Nat → Nat → Value) (vr vs : Value) (nt : Nat) (T : Nat → Tx) (X : Nat → Value) (vt : Value) (B : Nat) (w : World) (h : Grs w B nr F n S V vr vs) (ht : Txs w B nt T X vt) (hr : nr ≤ 9223372036854775807) (hn : n ≤ 9223372036854775807) (hs : ∀ i, i < n → BigS (S i)) (hnt : nt ≤ 9223372036854775807) (hx : ∀ i, i < nt → (T i).m ≤ 9223372036854775807) :
    Calls Tryz.prog 5 #[.agg #[.int .i64 nw, .int .i64 nx, .int .i64 bd, vr, vs, vt], .int .i64 1048576] w fun e w' => ∃ r, e = .returned (.int .i64 r) ∧ (r = -1 ∨ (0 ≤ r ∧ (nr ≤ 1048576 ∧ n ≤ 1048576 ∧ sumN (sizeT S) n ≤ 1048576 ∧ ∀ i, i < n → SmallS (S i)) ∧ nt ≤ 1048576 ∧ sumN (sizeX T) nt ≤ 1048576 ∧ ∀ i, i < nt → (T i).m ≤ 1048576)) ∧ Below w.heap.size w w' := by
  obtain ⟨a0, c0, a1, c1, rfl, rfl⟩ := h.form
  obtain ⟨at', ct, rfl⟩ := ht.form
  have H : Hid (Grs w B nr F n S V (.slice a0 nr c0) (.slice a1 n c1) ∧ Txs w B nt T X (.slice at' nt ct)) := ⟨h, ht⟩
  have HN : Hid ((∀ i, i < n → BigS (S i)) ∧ ∀ i, i < nt → (T i).m ≤ 9223372036854775807) := ⟨hs, hx⟩
  have K0 : Hid (Blk6 (w.alloc (.cells #[.int .i64 nw, .int .i64 nx, .int .i64 bd, .slice a0 nr c0, .slice a1 n c1, .slice at' nt ct] 30)) w.heap.size (.int .i64 nw) (.int .i64 nx) (.int .i64 bd) (.slice a0 nr c0) (.slice a1 n c1) (.slice at' nt ct)) := Blk6.new w _ _ _ _ _ _ _
  clear h ht hs hx
  go_enter Tryz.func5, Tryz.ntmps5
  go_wp2_with fail
  refine (szGroups_lim nr F n S V _ _ B _ (H.out.1.later (below_alloc _ _)) hr hn HN.out.1).mono ?_
  rintro e w1 ⟨r, rfl, hA, hle, q1⟩
  have Q1 : Hid (Below w.heap.size w w1 ∧ Blk6 w1 w.heap.size (.int .i64 nw) (.int .i64 nx) (.int .i64 bd) (.slice a0 nr c0) (.slice a1 n c1) (.slice at' nt ct)) := ⟨(below_alloc _ _).trans (q1.mono (by simp)), K0.out.later q1⟩
  clear q1 K0
  rcases hA with rfl | ⟨h1, h2, h3, h4⟩
  · go_wp2
    go_ret
    exact ⟨-1, rfl, Or.inl rfl, Q1.out.1⟩
  have dr : decide (r < 0) = false := decide_eq_false (by omega)
  have HA : Hid ((nr ≤ 1048576 ∧ n ≤ 1048576 ∧ sumN (sizeT S) n ≤ 1048576 ∧ ∀ i, i < n → SmallS (S i))) := ⟨h2, h3.1, h3.2, h4⟩
  clear h2 h3 h4
  obtain ⟨⟨s0, s1, s2, s3, s4, s5⟩, _⟩ := Q1.out.2
  go_wp2_with fail
  refine (szTxnS_any nt T X _ B r _ (H.out.2.later Q1.out.1) hnt HN.out.2 h1 hle).mono ?_
  rintro e w2 ⟨r2, rfl, hB, q2⟩
  have Q2 : Hid (Below w.heap.size w w2) := Q1.out.1.trans (q2.mono Q1.out.1.size)
  clear q2 s0 s1 s2 s3 s4 s5 Q1
  rcases hB with rfl | ⟨g1, g2, g3, g4⟩
  · go_wp2
    go_ret
    exact ⟨-1, rfl, Or.inl rfl, Q2.out⟩
  have dr2 : decide (r2 < 0) = false := decide_eq_false (by omega)
  have HB : Hid (nt ≤ 1048576 ∧ sumN (sizeX T) nt ≤ 1048576 ∧ ∀ i, i < nt → (T i).m ≤ 1048576) := ⟨g2, by omega, g4⟩
  clear g2 g3 g4
  go_wp2
  go_ret
  exact ⟨r2, rfl, Or.inr ⟨g1, HA.out, HB.out⟩, Q2.out⟩
end Go.Proofs.YtphfiojhpfdpdaaGreat

namespace Go.Proofs.YtphfiojhpfdpdaaGreat
open Go.RowKit

def markX (T : Nat → Tx) (i : Nat) : Nat := 5 + (T i).m * 3
theorem markX_le (T : Nat → Tx) : ∀ n, sumN (markX T) n ≤ 5 * n + 3 * sumN (sizeX T) n
  | 0 => by simp [sumN]
  | n + 1 => by
    have := markX_le T n
    show sumN (markX T) n + markX T n ≤ 5 * (n + 1) + 3 * (sumN (sizeX T) n + sizeX T n)
    unfold markX sizeX at *
    omega
theorem Fil.over {w : World} {g N : Nat} {X : Nat → Value} {D : Nat → Prop} (h : Fil w g N X D) {p : Nat} (hp : p < N) (hd : ¬ D p) (v : Value) : Fil (w.setCell ⟨g, p, none⟩ v) g N X D := by
  obtain ⟨u, hu⟩ := (h.2 p hp).1.1
  have same : (w.setCell ⟨g, p, none⟩ v).cell? ⟨g, p, none⟩ = some v := World.cell?_setCell_same _ _ _ hu
  have other : ∀ q, q ≠ p → (w.setCell ⟨g, p, none⟩ v).cell? ⟨g, q, none⟩ = w.cell? ⟨g, q, none⟩ := fun q hq => World.cell?_setCell_other _ _ _ _ (fun e => hq (congrArg Addr.off e).symm)
  refine ⟨by simpa [World.setCell] using h.1, fun q hq => ⟨⟨?_, by simp only [World.frozen?_setCell]; exact (h.2 q hq).1.2⟩, fun d => ?_⟩⟩
  · by_cases e : q = p
    · subst e; exact ⟨_, same⟩
    · rw [other q e]; exact (h.2 q hq).1.1
  · by_cases e : q = p
    · subst e; exact absurd d hd
    · rw [other q e]; exact (h.2 q hq).2 d
theorem Fil.within {w w' : World} {g N B E : Nat} {X : Nat → Value} {D : Nat → Prop} (h : Fil w g N X D) (hw : Within B E w w') (hg : g < B ∨ E ≤ g) : Fil w' g N X D := by
  have hb := hw.block g h.1 hg
  refine ⟨Nat.lt_of_lt_of_le h.1 hw.size, fun p hp => ?_⟩
  rw [World.cell?_of_block (w := w) (a := ⟨g, p, none⟩) hb, World.frozen?_of_block (w := w) (a := ⟨g, p, none⟩) hb]
  exact h.2 p hp
theorem FineT.up {w : World} {z : Nat → Nat} {n : Nat} {T : Nat → Tx} {U : Nat → Value} (h : FineT w z n T U) : ∀ j, j ≤ n → ∀ i, i ≤ j → z i ≤ z j
  | 0, _, i, hi => by obtain rfl : i = 0 := by omega
                      exact Nat.le_refl _
  | j + 1, hj, i, hi => by
    by_cases q : i = j + 1
    · subst q; exact Nat.le_refl _
    · exact Nat.le_trans (h.up j (by omega) i (by omega)) (h j (by omega)).2.2
/-- What stands while transactions are numbered: the items of those from k on, and where they lie. -/
def MarkE (w : World) (g n : Nat) (T : Nat → Tx) (U : Nat → Value) (z : Nat → Nat) (k : Nat) (x : World) : Prop :=
  Fil x g (n * 6) (fun p => U (p / 6)) (fun p => p % 6 = 5) ∧ (∀ i, k ≤ i → i < n → Row x (z i) 3 (T i).m (T i).L (U i) ∧ Free x ((T i).m * 3) (U i)) ∧ Within g (z n) w x
theorem MarkE.over {w x : World} {g n : Nat} {T : Nat → Tx} {U : Nat → Value} {z : Nat → Nat} {k : Nat} (h : MarkE w g n T U z k x) (hz : ∀ i, i ≤ n → g < z i) {p : Nat} (hp : p < n * 6) (hd : p % 6 ≠ 5) (v : Value) : MarkE w g n T U z k (x.setCell ⟨g, p, none⟩ v) := by
  refine ⟨h.1.over hp hd v, fun i hi hn => ⟨(h.2.1 i hi hn).1.far (Or.inl (hz i (by omega))) v, (h.2.1 i hi hn).2.far _ _⟩, h.2.2.trans ⟨rfl, rfl, rfl, by simp [World.setCell], fun q hq ho => Below.heap_setCell x _ v q ?_⟩⟩
  have := hz n (Nat.le_refl _)
  show q ≠ g
  omega
theorem MarkE.over5 {w x : World} {g n : Nat} {T : Nat → Tx} {U : Nat → Value} {z : Nat → Nat} {k : Nat} (h : MarkE w g n T U z k x) (hz : ∀ i, i ≤ n → g < z i) (hk : k < n) (v0 v1 v2 v3 v4 : Value) :
    MarkE w g n T U z k (((((x.setCell ⟨g, k * 6, none⟩ v0).setCell ⟨g, k * 6 + 1, none⟩ v1).setCell ⟨g, k * 6 + 2, none⟩ v2).setCell ⟨g, k * 6 + 3, none⟩ v3).setCell ⟨g, k * 6 + 4, none⟩ v4) :=
  ((((h.over hz (by omega) (by omega) v0).over hz (by omega) (by omega) v1).over hz (by omega) (by omega) v2).over hz (by omega) (by omega) v3).over hz (by omega) (by omega) v4
theorem MarkE.next {w x x1 : World} {g n : Nat} {T : Nat → Tx} {U : Nat → Value} {z : Nat → Nat} {k : Nat} (h : MarkE w g n T U z k x) (hz : ∀ i, i ≤ n → g < z i) (hf : FineT w z n T U) (hk : k < n) (hw : Within (z k) (z (k + 1)) x x1) : MarkE w g n T U z (k + 1) x1 := by
  refine ⟨h.1.within hw (Or.inl (hz k (by omega))), fun i hi hn => ?_, h.2.2.trans (hw.mono (Nat.le_of_lt (hz k (by omega))) (hf.up n (Nat.le_refl _) (k + 1) hk))⟩
  have ho : 0 < (T i).m → ∀ q, (U i).ownBlock = some q → q < z k ∨ z (k + 1) ≤ q := fun h0 q hq => Or.inr (by
    have h1 := (hf i hn).2.1 h0 q hq
    have h2 := hf.up i (by omega) (k + 1) hi
    omega)
  exact ⟨(h.2.1 i (by omega) hn).1.within hw ho, (h.2.1 i (by omega) hn).2.within (h.2.1 i (by omega) hn).1 hw ho⟩
set_option maxRecDepth 100000 in
set_option maxHeartbeats 8000000 in
theorem markTxnS_any (n cp g : Nat) (T : Nat → Tx) (U : Nat → Value) (z : Nat → Nat) (k0 : Int) (w : World) (hF : FillT w g n n T U) (hf : FineT w z n T U) (hz : ∀ i, i ≤ n → g < z i) (hs : ∀ i, i < n → (T i).m ≤ 1048576) (ht : sumN (sizeX T) n ≤ 1048576) (h0 : 0 ≤ k0) (h1 : k0 ≤ 20000000) (hn : n ≤ 1048576) :
    Calls Tryz.prog 40 #[.slice (some ⟨g, 0, none⟩) n cp, .int .i64 k0] w fun e w' => e = .returned (.int .i64 (k0 + (sumN (markX T) n : Nat))) ∧ Within g (z n) w w' := by
  have HZ : Hid ((∀ i, i ≤ n → g < z i) ∧ FineT w z n T U) := ⟨hz, hf⟩
  have HN : Hid ((∀ i, i < n → (T i).m ≤ 1048576) ∧ ∀ k, k ≤ n → sumN (markX T) k ≤ 8388608) := ⟨hs, fun k hk => by have := sum_mono (markX T) hk; have := markX_le T n; omega⟩
  have HM : Hid (MarkE w g n T U z 0 w) := ⟨Fil.congr hF (fun p hp d => ⟨by omega, by
    show txV (T (p / 6)) (U (p / 6)) (p % 6) = U (p / 6)
    rw [d]
    rfl⟩), fun i _ hi => ⟨(hf i hi).1.1, (hf i hi).1.2.1⟩, Within.refl _ _ _⟩
  clear hF hf hz hs ht
  go_enter Tryz.func40, Tryz.ntmps40
  go_wp2
  go_loopw [1, 5] (fun j i wr => ∃ (k c : Nat), k ≤ n ∧ j = .int .i64 (k0 + (c : Nat)) ∧ i = .int .i64 k ∧ Hid (c = sumN (markX T) k) ∧ Hid (MarkE w g n T U z k wr)) (fun _ i _ => n - (intOf i).toNat)
  case atStart => exact ⟨0, 0, Nat.zero_le _, by simp, rfl, rfl, HM⟩
  case round =>
    clear HM
    obtain ⟨k, c, hk, rfl, rfl, HC, HR⟩ := hrel
    have hcb : c ≤ 8388608 := by rw [HC.out]; exact HN.out.2 k hk
    by_cases hlt : k < n
    · obtain ⟨⟨⟨x0, y0⟩, f0⟩, _⟩ := HR.out.1.2 (k * 6) (by omega)
      obtain ⟨⟨⟨x1, y1⟩, f1⟩, _⟩ := HR.out.1.2 (k * 6 + 1) (by omega)
      obtain ⟨⟨⟨x2, y2⟩, f2⟩, _⟩ := HR.out.1.2 (k * 6 + 2) (by omega)
      obtain ⟨⟨⟨x3, y3⟩, f3⟩, _⟩ := HR.out.1.2 (k * 6 + 3) (by omega)
      obtain ⟨⟨⟨x4, y4⟩, f4⟩, _⟩ := HR.out.1.2 (k * 6 + 4) (by omega)
      have y5 := (HR.out.1.2 (k * 6 + 5) (by omega)).2 (by omega)
      simp only [show (k * 6 + 5) / 6 = k by omega] at y5
      obtain ⟨uo, uc, hU⟩ := (HR.out.2.1 k (Nat.le_refl _) hlt).1.form
      have hm := HN.out.1 k hlt
      obtain ⟨m, hmm⟩ : ∃ m, (T k).m = m := ⟨_, rfl⟩
      rw [hU, hmm] at y5
      rw [hmm] at hm
      have HU : Hid (U k = .slice uo m uc ∧ (T k).m = m) := ⟨by rw [hU, hmm], hmm⟩
      clear hU hmm
      have HM5 : Hid (∀ v0 v1 v2 v3 v4, MarkE w g n T U z k (((((wr.setCell ⟨g, k * 6, none⟩ v0).setCell ⟨g, k * 6 + 1, none⟩ v1).setCell ⟨g, k * 6 + 2, none⟩ v2).setCell ⟨g, k * 6 + 3, none⟩ v3).setCell ⟨g, k * 6 + 4, none⟩ v4)) := fun v0 v1 v2 v3 v4 => HR.out.over5 HZ.out.1 hlt v0 v1 v2 v3 v4
      have HIT : Hid (∀ v0 v1 v2 v3 v4, Row (((((wr.setCell ⟨g, k * 6, none⟩ v0).setCell ⟨g, k * 6 + 1, none⟩ v1).setCell ⟨g, k * 6 + 2, none⟩ v2).setCell ⟨g, k * 6 + 3, none⟩ v3).setCell ⟨g, k * 6 + 4, none⟩ v4) (z k) 3 m (T k).L (.slice uo m uc) ∧ Free (((((wr.setCell ⟨g, k * 6, none⟩ v0).setCell ⟨g, k * 6 + 1, none⟩ v1).setCell ⟨g, k * 6 + 2, none⟩ v2).setCell ⟨g, k * 6 + 3, none⟩ v3).setCell ⟨g, k * 6 + 4, none⟩ v4) (m * 3) (.slice uo m uc)) := fun v0 v1 v2 v3 v4 => by
        have := (HM5.out v0 v1 v2 v3 v4).2.1 k (Nat.le_refl _) hlt
        rw [HU.out.1, HU.out.2] at this
        exact this
      have HOW : Hid (0 < m → ∀ q, (Value.slice uo m uc).ownBlock = some q → z k ≤ q ∧ q < z (k + 1)) := by
        have := (HZ.out.2 k hlt).2.1
        rw [HU.out.1, HU.out.2] at this
        exact this
      have HC1 : Hid (c + 5 + m * 3 = sumN (markX T) (k + 1)) := by
        unfold Hid
        show _ = sumN (markX T) k + (5 + (T k).m * 3)
        rw [HC.out, HU.out.2]
        omega
      go_wp2_with fail
      refine (markItemS_turn _ (z k) m (T k).L _ _ (HIT.out _ _ _ _ _).1 (HIT.out _ _ _ _ _).2 hm (by omega) (by omega)).mono ?_
      rintro e w1 ⟨rfl, _, _, g1⟩
      have HM1 : Hid (MarkE w g n T U z (k + 1) w1) := (HM5.out _ _ _ _ _).next HZ.out.1 HZ.out.2 hlt (Within.of g1 (fun b q => by obtain ⟨h0, h1⟩ := turn_eq q; exact HOW.out h0 b h1))
      clear g1 HIT HM5 HR y0 y1 y2 y3 y4 y5 f0 f1 f2 f3 f4
      go_wp2
      go_roundw
      case rel => exact ⟨k + 1, c + 5 + m * 3, by omega, by congr 1; push_cast; omega, by go_num, HC1, HM1⟩
      case measure => simp [intOf]; omega
    · obtain rfl : k = n := by omega
      go_wp2
      go_ret
      exact ⟨by rw [HC.out]; rfl, HR.out.2.2⟩
end Go.Proofs.YtphfiojhpfdpdaaGreat

namespace Go.Proofs.YtphfiojhpfdpdaaGreat
open Go.RowKit

/-- The numbers that transactions get from k0 on. -/
def numT (T : Nat → Tx) (k0 : Int) (i : Nat) : Tx := ⟨k0 + (sumN (markX T) i : Nat), k0 + (sumN (markX T) i : Nat) + 1, k0 + (sumN (markX T) i : Nat) + 2, k0 + (sumN (markX T) i : Nat) + 3, k0 + (sumN (markX T) i : Nat) + 4, (T i).m, fun p => k0 + (sumN (markX T) i : Nat) + 5 + (p : Nat)⟩
/-- Transactions of their own: a row that may be written, items that may be written, all in blocks apart, from lo on and below tp. -/
structure OwnT (w : World) (lo tp n : Nat) (T : Nat → Tx) (U : Nat → Value) (ao : Option Addr) : Prop where
  fill : 0 < n → ∃ g, ao = some ⟨g, 0, none⟩ ∧ (lo ≤ g ∧ g < tp) ∧ FillT w g n n T U ∧ ∀ i, i < n → 0 < (T i).m → (U i).ownBlock ≠ some g
  items : ∀ i, i < n → Row w lo 3 (T i).m (T i).L (U i) ∧ Free w ((T i).m * 3) (U i) ∧ CapOk (U i) ∧ (0 < (T i).m → ∀ q, (U i).ownBlock = some q → lo ≤ q ∧ q < tp)
  apart : ∀ i j, i < n → j < n → i ≠ j → 0 < (T i).m → 0 < (T j).m → ∀ q, (U i).ownBlock = some q → (U j).ownBlock ≠ some q
theorem OwnT.txs {w : World} {lo tp n : Nat} {T : Nat → Tx} {U : Nat → Value} {ao : Option Addr} (h : OwnT w lo tp n T U ao) (cp : Nat) : Txs w lo n T U (.slice ao n cp) := by
  refine ⟨⟨ao, cp, rfl, fun hn => ?_⟩, fun i hi => ⟨(h.items i hi).1, (h.items i hi).2.2.1⟩⟩
  obtain ⟨g, e, hg, hf, _⟩ := h.fill hn
  refine ⟨g, 0, e, hg.1, hf.1, fun i hi j hj => ?_⟩
  have := (hf.2 (i * 6 + j) (by omega)).2 (by show i * 6 + j < n * 6; omega)
  rw [Nat.zero_add, this]
  show some (txV (T ((i * 6 + j) / 6)) (U ((i * 6 + j) / 6)) ((i * 6 + j) % 6)) = _
  rw [show (i * 6 + j) / 6 = i by omega, show (i * 6 + j) % 6 = j by omega]
theorem OwnT.kept {w w' : World} {lo tp n : Nat} {T : Nat → Tx} {U : Nat → Value} {ao : Option Addr} (h : OwnT w lo tp n T U ao) (hs : w.heap.size ≤ w'.heap.size) (htp : tp ≤ w.heap.size) (hb : ∀ q, lo ≤ q → q < tp → w'.heap[q]? = w.heap[q]?) : OwnT w' lo tp n T U ao := by
  refine ⟨fun hn => ?_, fun i hi => ?_, h.apart⟩
  · obtain ⟨g, e, hg, hf, ha⟩ := h.fill hn
    have he := hb g hg.1 hg.2
    refine ⟨g, e, hg, ⟨by omega, fun p hp => ?_⟩, ha⟩
    have hc : w'.cell? ⟨g, p, none⟩ = w.cell? ⟨g, p, none⟩ := World.cell?_of_block (w := w) he
    have hf' : w'.frozen? ⟨g, p, none⟩ = w.frozen? ⟨g, p, none⟩ := World.frozen?_of_block (w := w) he
    rw [hc, hf']
    exact hf.2 p hp
  · obtain ⟨h1, h2, h3, h4⟩ := h.items i hi
    rcases Nat.eq_zero_or_pos (T i).m with e | e
    · refine ⟨?_, ?_, h3, h4⟩
      · obtain ⟨a, c, ev, _⟩ := h1
        exact ⟨a, c, ev, fun q => by omega⟩
      · rw [e]; exact Free.of0 _ _
    · refine ⟨h1.kept hs (fun k hk _ => hb k (h4 e k hk).1 (h4 e k hk).2), ?_, h3, h4⟩
      intro g o m c ev p hp
      have ho := h4 e g (by rw [ev]; rfl)
      rw [World.frozen?_of_block (w := w) (hb g ho.1 ho.2)]
      exact h2 g o m c ev p hp
theorem OwnT.later {w w' : World} {lo tp n : Nat} {T : Nat → Tx} {U : Nat → Value} {ao : Option Addr} (h : OwnT w lo tp n T U ao) (htp : tp ≤ w.heap.size) (hb : Below w.heap.size w w') : OwnT w' lo tp n T U ao := h.kept hb.size htp (fun q _ hq => hb.block q (by omega))
/-- What stands while they are numbered: the first k are. -/
structure MarkH (w : World) (g lo tp n : Nat) (T : Nat → Tx) (U : Nat → Value) (k0 : Int) (k : Nat) (x : World) : Prop where
  fill : Fil x g (n * 6) (fun p => txV (if p / 6 < k then numT T k0 (p / 6) else T (p / 6)) (U (p / 6)) (p % 6)) (fun _ => True)
  done : ∀ i, i < k → i < n → Row x lo 3 (T i).m (numT T k0 i).L (U i)
  todo : ∀ i, k ≤ i → i < n → Row x lo 3 (T i).m (T i).L (U i) ∧ Free x ((T i).m * 3) (U i)
  back : Within lo tp w x
theorem grownX_set (x : World) (g p : Nat) (u : Value) : x.grownBy (x.setCell ⟨g, p, none⟩ u) (some g) :=
  ⟨rfl, rfl, rfl, by simp [World.setCell], fun i _ hi => Below.heap_setCell x ⟨g, p, none⟩ u i (fun e => hi (by rw [e]))⟩
theorem grownX_trans {x y z : World} {r : Option Nat} (h : x.grownBy y r) (h' : y.grownBy z r) : x.grownBy z r :=
  ⟨h'.os.trans h.os, h'.tape.trans h.tape, h'.output.trans h.output, Nat.le_trans h.size h'.size, fun i hi hr => (h'.block i (Nat.lt_of_lt_of_le hi h.size) hr).trans (h.block i hi hr)⟩
theorem grownX_set5 (x : World) (g p : Nat) (v0 v1 v2 v3 v4 : Value) : x.grownBy (((((x.setCell ⟨g, p, none⟩ v0).setCell ⟨g, p + 1, none⟩ v1).setCell ⟨g, p + 2, none⟩ v2).setCell ⟨g, p + 3, none⟩ v3).setCell ⟨g, p + 4, none⟩ v4) (some g) :=
  grownX_trans (grownX_trans (grownX_trans (grownX_trans (grownX_set x g p v0) (grownX_set _ g _ v1)) (grownX_set _ g _ v2)) (grownX_set _ g _ v3)) (grownX_set _ g _ v4)
/-- The five numbers of number k. -/
theorem MarkH.five {w x : World} {g lo tp n : Nat} {T : Nat → Tx} {U : Nat → Value} {k0 : Int} {k : Nat} (h : MarkH w g lo tp n T U k0 k x) (hO : OwnT w lo tp n T U (some ⟨g, 0, none⟩)) (hk : k < n) (v0 v1 v2 v3 v4 : Value) (e0 : v0 = .int .i64 (numT T k0 k).s) (e1 : v1 = .int .i64 (numT T k0 k).c) (e2 : v2 = .int .i64 (numT T k0 k).u) (e3 : v3 = .int .i64 (numT T k0 k).st) (e4 : v4 = .int .i64 (numT T k0 k).a) :
    ∃ y, y = (((((x.setCell ⟨g, k * 6, none⟩ v0).setCell ⟨g, k * 6 + 1, none⟩ v1).setCell ⟨g, k * 6 + 2, none⟩ v2).setCell ⟨g, k * 6 + 3, none⟩ v3).setCell ⟨g, k * 6 + 4, none⟩ v4) ∧ Fil y g (n * 6) (fun p => txV (if p / 6 < k + 1 then numT T k0 (p / 6) else T (p / 6)) (U (p / 6)) (p % 6)) (fun _ => True) ∧ (∀ i, i < k → i < n → Row y lo 3 (T i).m (numT T k0 i).L (U i)) ∧ (∀ i, k ≤ i → i < n → Row y lo 3 (T i).m (T i).L (U i) ∧ Free y ((T i).m * 3) (U i)) ∧ Within lo tp w y := by
  refine ⟨_, rfl, ?_, fun i hi hn => ?_, fun i hi hn => ?_, ?_⟩
  · have hX : ∀ p, p < n * 6 → (p / 6 ≠ k ∨ p % 6 = 5) → txV (if p / 6 < k then numT T k0 (p / 6) else T (p / 6)) (U (p / 6)) (p % 6) = txV (if p / 6 < k + 1 then numT T k0 (p / 6) else T (p / 6)) (U (p / 6)) (p % 6) := fun p _ hq => by
      rcases hq with hq | hq
      · by_cases q : p / 6 < k
        · rw [if_pos q, if_pos (by omega)]
        · rw [if_neg q, if_neg (by omega)]
      · rw [hq]; rfl
    have hA : Fil x g (n * 6) (fun p => txV (if p / 6 < k + 1 then numT T k0 (p / 6) else T (p / 6)) (U (p / 6)) (p % 6)) (fun p => p / 6 ≠ k ∨ p % 6 = 5) := Fil.congr h.fill (fun p hp d => ⟨trivial, hX p hp d⟩)
    have hval : ∀ j, j < 5 → ∀ v, v = txV (numT T k0 k) (U k) j → (fun p => txV (if p / 6 < k + 1 then numT T k0 (p / 6) else T (p / 6)) (U (p / 6)) (p % 6)) (k * 6 + j) = v := fun j hj v hv => by
      show txV (if (k * 6 + j) / 6 < k + 1 then numT T k0 ((k * 6 + j) / 6) else T ((k * 6 + j) / 6)) (U ((k * 6 + j) / 6)) ((k * 6 + j) % 6) = v
      rw [show (k * 6 + j) / 6 = k by omega, show (k * 6 + j) % 6 = j by omega, if_pos (by omega), hv]
    have hB := ((((hA.set (p := k * 6) (by omega) (hval 0 (by decide) v0 e0)).set (p := k * 6 + 1) (by omega) (hval 1 (by decide) v1 e1)).set (p := k * 6 + 2) (by omega) (hval 2 (by decide) v2 e2)).set (p := k * 6 + 3) (by omega) (hval 3 (by decide) v3 e3)).set (p := k * 6 + 4) (by omega) (hval 4 (by decide) v4 e4)
    exact Fil.congr hB (fun p _ _ => ⟨by omega, rfl⟩)
  · exact (h.done i hi hn).turned (grownX_set5 x g (k * 6) v0 v1 v2 v3 v4) (fun h0 q hq e => by
      obtain ⟨g', e', _, _, ha⟩ := hO.fill (by omega)
      obtain rfl : g = g' := by simpa using e'
      rw [Option.some.inj e] at hq
      exact ha i hn h0 hq)
  · refine ⟨(h.todo i hi hn).1.turned (grownX_set5 x g (k * 6) v0 v1 v2 v3 v4) (fun h0 q hq e => ?_), ((((((h.todo i hi hn).2.far _ _).far _ _).far _ _).far _ _).far _ _)⟩
    obtain ⟨g', e', _, _, ha⟩ := hO.fill (by omega)
    obtain rfl : g = g' := by simpa using e'
    rw [Option.some.inj e] at hq
    exact ha i hn h0 hq
  · obtain ⟨g', e', hg, _, _⟩ := hO.fill (by omega)
    obtain rfl : g = g' := by simpa using e'
    exact h.back.trans (Within.of (grownX_set5 x g (k * 6) v0 v1 v2 v3 v4) (fun b q => by obtain rfl := Option.some.inj q; exact hg))
/-- The items of number k. -/
theorem MarkH.next {w y x1 : World} {g lo tp n : Nat} {T : Nat → Tx} {U : Nat → Value} {k0 : Int} {k : Nat} (hO : OwnT w lo tp n T U (some ⟨g, 0, none⟩)) (hk : k < n)
    (hf : Fil y g (n * 6) (fun p => txV (if p / 6 < k + 1 then numT T k0 (p / 6) else T (p / 6)) (U (p / 6)) (p % 6)) (fun _ => True)) (hd : ∀ i, i < k → i < n → Row y lo 3 (T i).m (numT T k0 i).L (U i)) (ht : ∀ i, k ≤ i → i < n → Row y lo 3 (T i).m (T i).L (U i) ∧ Free y ((T i).m * 3) (U i)) (hw : Within lo tp w y)
    (hr : Row x1 lo 3 (T k).m (numT T k0 k).L (U k)) (hg : y.grownBy x1 (turn (T k).m (U k))) : MarkH w g lo tp n T U k0 (k + 1) x1 := by
  have hne : ∀ i, i < n → i ≠ k → 0 < (T i).m → ∀ q, (U i).ownBlock = some q → some q ≠ turn (T k).m (U k) := fun i hi hik h0 q hq e => by
    obtain ⟨h1, h2⟩ := turn_eq e.symm
    exact hO.apart i k hi hk hik h0 h1 q hq h2
  obtain ⟨g', e', hg', _, ha⟩ := hO.fill (by omega)
  obtain rfl : g = g' := by simpa using e'
  have hgb : x1.heap[g]? = y.heap[g]? := hg.block g hf.1 (fun e => by
    obtain ⟨h1, h2⟩ := turn_eq e.symm
    exact ha k hk h1 h2)
  refine ⟨⟨Nat.lt_of_lt_of_le hf.1 hg.size, fun p hp => ?_⟩, fun i hi hn => ?_, fun i hi hn => ?_, hw.trans (Within.of hg (fun b q => ?_))⟩
  · rw [show x1.cell? ⟨g, p, none⟩ = y.cell? ⟨g, p, none⟩ from World.cell?_of_block (w := y) hgb, show x1.frozen? ⟨g, p, none⟩ = y.frozen? ⟨g, p, none⟩ from World.frozen?_of_block (w := y) hgb]
    exact hf.2 p hp
  · by_cases q : i = k
    · subst q; exact hr
    · exact (hd i (by omega) hn).turned hg (hne i hn q)
  · exact ⟨(ht i (by omega) hn).1.turned hg (hne i hn (by omega)), (ht i (by omega) hn).2.turned (ht i (by omega) hn).1 hg (hne i hn (by omega))⟩
  · obtain ⟨h1, h2⟩ := turn_eq q
    exact (hO.items k hk).2.2.2 h1 b h2
set_option maxRecDepth 100000 in
set_option maxHeartbeats 8000000 in
theorem markTxnS_own (n cp lo tp : Nat) (T : Nat → Tx) (U : Nat → Value) (ao : Option Addr) (k0 : Int) (w : World) (hO : OwnT w lo tp n T U ao) (hs : ∀ i, i < n → (T i).m ≤ 1048576) (ht : sumN (sizeX T) n ≤ 1048576) (h0 : 0 ≤ k0) (h1 : k0 ≤ 20000000) (hn : n ≤ 1048576) :
    Calls Tryz.prog 40 #[.slice ao n cp, .int .i64 k0] w fun e w' => e = .returned (.int .i64 (k0 + (sumN (markX T) n : Nat))) ∧ Txs w' lo n (numT T k0) U (.slice ao n cp) ∧ Within lo tp w w' := by
  rcases Nat.eq_zero_or_pos n with e0 | e0
  · subst e0
    go_enter Tryz.func40, Tryz.ntmps40
    go_wp2
    go_loopw [1, 5] (fun j i wr => j = .int .i64 k0 ∧ i = .int .i64 0 ∧ wr = w) (fun _ _ _ => 0)
    case atStart => exact ⟨rfl, rfl, rfl⟩
    case round =>
      obtain ⟨rfl, rfl, hw⟩ := hrel
      obtain rfl := hw.symm
      go_wp2
      go_ret
      exact ⟨by simp [sumN], ⟨⟨_, _, rfl, fun q => absurd q (Nat.lt_irrefl 0)⟩, fun i hi => absurd hi (Nat.not_lt_zero _)⟩, Within.refl _ _ _⟩
  obtain ⟨g, rfl, hg, hF, hgi⟩ := hO.fill e0
  have HO : Hid (OwnT w lo tp n T U (some ⟨g, 0, none⟩)) := hO
  have HN : Hid ((∀ i, i < n → (T i).m ≤ 1048576) ∧ ∀ k, k ≤ n → sumN (markX T) k ≤ 8388608) := ⟨hs, fun k hk => by have := sum_mono (markX T) hk; have := markX_le T n; omega⟩
  have HM : Hid (MarkH w g lo tp n T U k0 0 w) := ⟨Fil.congr hF (fun p hp _ => ⟨hp, by rw [if_neg (Nat.not_lt_zero _)]⟩), fun i hi => absurd hi (Nat.not_lt_zero _), fun i _ hi => ⟨(hO.items i hi).1, (hO.items i hi).2.1⟩, Within.refl _ _ _⟩
  clear hF hO hs ht hgi
  go_enter Tryz.func40, Tryz.ntmps40
  go_wp2
  go_loopw [1, 5] (fun j i wr => ∃ (k c : Nat), k ≤ n ∧ j = .int .i64 (k0 + (c : Nat)) ∧ i = .int .i64 k ∧ Hid (c = sumN (markX T) k) ∧ Hid (MarkH w g lo tp n T U k0 k wr)) (fun _ i _ => n - (intOf i).toNat)
  case atStart => exact ⟨0, 0, Nat.zero_le _, by simp, rfl, rfl, HM⟩
  case round =>
    clear HM
    obtain ⟨k, c, hk, rfl, rfl, HC, HR⟩ := hrel
    have hcb : c ≤ 8388608 := by rw [HC.out]; exact HN.out.2 k hk
    by_cases hlt : k < n
    · obtain ⟨⟨⟨x0, y0⟩, f0⟩, _⟩ := HR.out.fill.2 (k * 6) (by omega)
      obtain ⟨⟨⟨x1, y1⟩, f1⟩, _⟩ := HR.out.fill.2 (k * 6 + 1) (by omega)
      obtain ⟨⟨⟨x2, y2⟩, f2⟩, _⟩ := HR.out.fill.2 (k * 6 + 2) (by omega)
      obtain ⟨⟨⟨x3, y3⟩, f3⟩, _⟩ := HR.out.fill.2 (k * 6 + 3) (by omega)
      obtain ⟨⟨⟨x4, y4⟩, f4⟩, _⟩ := HR.out.fill.2 (k * 6 + 4) (by omega)
      have y5 : wr.cell? ⟨g, k * 6 + 5, none⟩ = some (U k) := by
        rw [(HR.out.fill.2 (k * 6 + 5) (by omega)).2 trivial]
        show some (txV _ (U ((k * 6 + 5) / 6)) ((k * 6 + 5) % 6)) = _
        rw [show (k * 6 + 5) / 6 = k by omega, show (k * 6 + 5) % 6 = 5 by omega]
        rfl
      obtain ⟨uo, uc, hU⟩ := (HR.out.todo k (Nat.le_refl _) hlt).1.form
      have hm := HN.out.1 k hlt
      obtain ⟨m, hmm⟩ : ∃ m, (T k).m = m := ⟨_, rfl⟩
      rw [hU, hmm] at y5
      rw [hmm] at hm
      have HU : Hid (U k = .slice uo m uc ∧ (T k).m = m) := ⟨by rw [hU, hmm], hmm⟩
      clear hU hmm
      have HK : Hid (k0 + (c : Nat) = (numT T k0 k).s) := by unfold Hid; rw [HC.out]; rfl
      have HFV : Hid (∀ v0 v1 v2 v3 v4, v0 = .int .i64 (numT T k0 k).s → v1 = .int .i64 (numT T k0 k).c → v2 = .int .i64 (numT T k0 k).u → v3 = .int .i64 (numT T k0 k).st → v4 = .int .i64 (numT T k0 k).a → ∃ y, y = (((((wr.setCell ⟨g, k * 6, none⟩ v0).setCell ⟨g, k * 6 + 1, none⟩ v1).setCell ⟨g, k * 6 + 2, none⟩ v2).setCell ⟨g, k * 6 + 3, none⟩ v3).setCell ⟨g, k * 6 + 4, none⟩ v4) ∧ Fil y g (n * 6) (fun p => txV (if p / 6 < k + 1 then numT T k0 (p / 6) else T (p / 6)) (U (p / 6)) (p % 6)) (fun _ => True) ∧ (∀ i, i < k → i < n → Row y lo 3 (T i).m (numT T k0 i).L (U i)) ∧ (∀ i, k ≤ i → i < n → Row y lo 3 (T i).m (T i).L (U i) ∧ Free y ((T i).m * 3) (U i)) ∧ Within lo tp w y) := fun v0 v1 v2 v3 v4 e0 e1 e2 e3 e4 => HR.out.five HO.out hlt v0 v1 v2 v3 v4 e0 e1 e2 e3 e4
      have HC1 : Hid (c + 5 + m * 3 = sumN (markX T) (k + 1)) := by
        unfold Hid
        show _ = sumN (markX T) k + (5 + (T k).m * 3)
        rw [HC.out, HU.out.2]
        omega
      go_wp2_with fail
      obtain ⟨y, hy, q1, q2, q3, q4⟩ := HFV.out (.int .i64 (k0 + (c : Int))) (.int .i64 (k0 + (c : Int) + 1)) (.int .i64 (k0 + (c : Int) + 1 + 1)) (.int .i64 (k0 + (c : Int) + 1 + 1 + 1)) (.int .i64 (k0 + (c : Int) + 1 + 1 + 1 + 1)) (by rw [← HK.out]) (by show _ = Value.int .i64 ((numT T k0 k).s + 1); rw [← HK.out]) (by show _ = Value.int .i64 ((numT T k0 k).s + 2); rw [← HK.out]; congr 1; omega) (by show _ = Value.int .i64 ((numT T k0 k).s + 3); rw [← HK.out]; congr 1; omega) (by show _ = Value.int .i64 ((numT T k0 k).s + 4); rw [← HK.out]; congr 1; omega)
      rw [← hy]
      have q3k := q3 k (Nat.le_refl _) hlt
      rw [HU.out.1, HU.out.2] at q3k
      have HY : Hid (Fil y g (n * 6) (fun p => txV (if p / 6 < k + 1 then numT T k0 (p / 6) else T (p / 6)) (U (p / 6)) (p % 6)) (fun _ => True) ∧ (∀ i, i < k → i < n → Row y lo 3 (T i).m (numT T k0 i).L (U i)) ∧ (∀ i, k ≤ i → i < n → Row y lo 3 (T i).m (T i).L (U i) ∧ Free y ((T i).m * 3) (U i)) ∧ Within lo tp w y) := ⟨q1, q2, q3, q4⟩
      refine (markItemS_turn _ lo m (T k).L _ _ q3k.1 q3k.2 hm (by omega) (by omega)).mono ?_
      rintro e w1 ⟨rfl, r1, _, g1⟩
      have hL : (fun p : Nat => k0 + (c : Int) + 1 + 1 + 1 + 1 + 1 + (p : Nat)) = (numT T k0 k).L := funext fun p => by
        show _ = (numT T k0 k).s + 5 + (p : Nat)
        rw [← HK.out]
        omega
      rw [hL] at r1
      have HM1 : Hid (MarkH w g lo tp n T U k0 (k + 1) w1) := MarkH.next HO.out hlt HY.out.1 HY.out.2.1 HY.out.2.2.1 HY.out.2.2.2 (by rw [HU.out.1, HU.out.2]; exact r1) (by rw [HU.out.1, HU.out.2]; exact g1)
      clear g1 r1 hL q1 q2 q3 q4 q3k HY hy HFV HR y0 y1 y2 y3 y4 y5 f0 f1 f2 f3 f4
      go_wp2
      go_roundw
      case rel => exact ⟨k + 1, c + 5 + m * 3, by omega, by congr 1; push_cast; omega, by go_num, HC1, HM1⟩
      case measure => simp [intOf]; omega
    · obtain rfl : k = n := by omega
      go_wp2
      go_ret
      refine ⟨by rw [HC.out]; rfl, ⟨⟨_, _, rfl, fun hn => ⟨g, 0, rfl, hg.1, HR.out.fill.1, fun i hi j hj => ?_⟩⟩, fun i hi => ⟨HR.out.done i hi hi, (HO.out.items i hi).2.2.1⟩⟩, HR.out.back⟩
      rw [Nat.zero_add, (HR.out.fill.2 (i * 6 + j) (by omega)).2 trivial]
      show some (txV (if (i * 6 + j) / 6 < _ then _ else _) (U ((i * 6 + j) / 6)) ((i * 6 + j) % 6)) = _
      rw [show (i * 6 + j) / 6 = i by omega, show (i * 6 + j) % 6 = j by omega, if_pos hi]
set_option maxRecDepth 100000 in
set_option maxHeartbeats 8000000 in
theorem heldTxnS_any (n : Nat) (T : Nat → Tx) (U : Nat → Value) (v : Value) (lo : Nat) (k0 : Int) (w : World) (h : Txs w lo n (numT T k0) U v) (hs : ∀ i, i < n → (T i).m ≤ 1048576) (ht : sumN (sizeX T) n ≤ 1048576) (h0 : 0 ≤ k0) (h1 : k0 ≤ 20000000) (hn : n ≤ 1048576) :
    Calls Tryz.prog 70 #[v, .int .i64 k0] w fun e w' => e = .returned (.int .i64 (k0 + (sumN (markX T) n : Nat))) ∧ w' = w := by
  obtain ⟨ao, cp, rfl⟩ := h.form
  have H : Hid (Txs w lo n (numT T k0) U (.slice ao n cp)) := h
  have HN : Hid ((∀ i, i < n → (T i).m ≤ 1048576) ∧ ∀ k, k ≤ n → sumN (markX T) k ≤ 8388608) := ⟨hs, fun k hk => by have := sum_mono (markX T) hk; have := markX_le T n; omega⟩
  clear h hs ht
  go_enter Tryz.func70, Tryz.ntmps70
  go_wp2
  go_loopw [1, 5] (fun j i wr => ∃ (k c : Nat), k ≤ n ∧ j = .int .i64 (k0 + (c : Nat)) ∧ i = .int .i64 k ∧ Hid (c = sumN (markX T) k) ∧ wr = w) (fun _ i _ => n - (intOf i).toNat)
  case atStart => exact ⟨0, 0, Nat.zero_le _, by simp, rfl, rfl, rfl⟩
  case round =>
    obtain ⟨k, c, hk, rfl, rfl, HC, hw⟩ := hrel
    obtain rfl := hw.symm
    have hcb : c ≤ 8388608 := by rw [HC.out]; exact HN.out.2 k hk
    by_cases hlt : k < n
    · obtain ⟨g, o, rfl, _, hg, ⟨x0, x1, x2, x3, x4, x5⟩, hrow, _⟩ := H.out.at hlt
      have HK : Hid ((numT T k0 k).s = k0 + (c : Nat)) := by unfold Hid; rw [HC.out]; rfl
      have e1 : (numT T k0 k).c = k0 + (c : Int) + 1 := by rw [← HK.out]; rfl
      have e2 : (numT T k0 k).u = k0 + (c : Int) + 1 + 1 := by show (numT T k0 k).s + 2 = _; rw [HK.out]; omega
      have e3 : (numT T k0 k).st = k0 + (c : Int) + 1 + 1 + 1 := by show (numT T k0 k).s + 3 = _; rw [HK.out]; omega
      have e4 : (numT T k0 k).a = k0 + (c : Int) + 1 + 1 + 1 + 1 := by show (numT T k0 k).s + 4 = _; rw [HK.out]; omega
      have hL : (numT T k0 k).L = (fun p : Nat => k0 + (c : Int) + 1 + 1 + 1 + 1 + 1 + (p : Nat)) := funext fun p => by
        show (numT T k0 k).s + 5 + (p : Nat) = _
        rw [HK.out]
        omega
      rw [HK.out] at x0
      rw [e1] at x1
      rw [e2] at x2
      rw [e3] at x3
      rw [e4] at x4
      rw [hL] at hrow
      have hm := HN.out.1 k hlt
      obtain ⟨m, hmm⟩ : ∃ m, (T k).m = m := ⟨_, rfl⟩
      have hrow : Row w lo 3 (T k).m (fun p : Nat => k0 + (c : Int) + 1 + 1 + 1 + 1 + 1 + (p : Nat)) (U k) := hrow
      obtain ⟨uo, uc, hU⟩ := hrow.form
      rw [hmm] at hU hm hrow
      rw [hU] at x5 hrow
      have HRW : Hid (Row w lo 3 m (fun p : Nat => k0 + (c : Int) + 1 + 1 + 1 + 1 + 1 + (p : Nat)) (.slice uo m uc)) := hrow
      have HC1 : Hid (c + 5 + m * 3 = sumN (markX T) (k + 1)) := by
        unfold Hid
        show _ = sumN (markX T) k + (5 + (T k).m * 3)
        rw [HC.out, hmm]
        omega
      clear e1 e2 e3 e4 hL hmm hU hrow
      go_wp2_with fail
      refine (heldItemS_any _ lo m _ _ HRW.out hm (by omega) (by omega)).mono ?_
      rintro e w1 ⟨rfl, hw1⟩
      obtain rfl := hw1.symm
      have dd : decide (k0 + (c : Int) + 1 + 1 + 1 + 1 + 1 + (m : Int) * 3 < 0) = false := decide_eq_false (by omega)
      go_wp2
      go_roundw
      case rel => exact ⟨k + 1, c + 5 + m * 3, by omega, by congr 1; push_cast; omega, by go_num, HC1, trivial⟩
      case measure => simp [intOf]; omega
    · obtain rfl : k = n := by omega
      go_wp2
      go_ret
      exact ⟨by rw [HC.out]; rfl, rfl⟩
end Go.Proofs.YtphfiojhpfdpdaaGreat

namespace Go.Proofs.YtphfiojhpfdpdaaGreat
open Go.RowKit

theorem toOracle_any (a b : Int) (w : World) :
    Calls Tryz.prog 29 #[.agg #[.int .i64 a, .int .i64 b]] w fun e w' => e = .returned (.agg #[.int .i64 a, .int .i64 b]) ∧ Below w.heap.size w w' := by
  go_enter Tryz.func29, Tryz.ntmps29
  go_wp2
  exact bodyPost_ret (v := .agg #[.int .i64 a, .int .i64 b]) (by simp [results, Tryz.results29, go_sem]) rfl ⟨rfl, by repeat (first | exact Below.refl _ _ | refine Below.setCell ?_ (by first | omega | (simp <;> omega)) _ | refine Below.alloc ?_ (by first | omega | (simp <;> omega)) _)⟩
theorem eqOracle_same (a b : Int) (w : World) :
    Calls Tryz.prog 36 #[.agg #[.int .i64 a, .int .i64 b], .agg #[.int .i64 a, .int .i64 b]] w fun e w' => e = .returned (.bool true) ∧ w' = (w.alloc (.cells #[.int .i64 a, .int .i64 b] 32)).alloc (.cells #[.int .i64 a, .int .i64 b] 32) := by
  go_enter Tryz.func36, Tryz.ntmps36
  go_wp2
  go_ret
  exact ⟨rfl, rfl⟩
end Go.Proofs.YtphfiojhpfdpdaaGreat

namespace Go.Proofs.YtphfiojhpfdpdaaGreat
open Go.RowKit

/-- A block of six cells, none frozen; one of eight. -/
def BlkW (x : World) (b : Nat) (a0 a1 a2 a3 a4 a5 : Value) : Prop := x.cell? ⟨b, 0, none⟩ = some a0 ∧ x.cell? ⟨b, 1, none⟩ = some a1 ∧ x.cell? ⟨b, 2, none⟩ = some a2 ∧ x.cell? ⟨b, 3, none⟩ = some a3 ∧ x.cell? ⟨b, 4, none⟩ = some a4 ∧ x.cell? ⟨b, 5, none⟩ = some a5
theorem BlkW.later {x x' : World} {b : Nat} {a0 a1 a2 a3 a4 a5 : Value} (h : BlkW x b a0 a1 a2 a3 a4 a5) (hb : Below x.heap.size x x') : BlkW x' b a0 a1 a2 a3 a4 a5 := by
  have hl := World.block_lt_of_cell? x _ h.1
  obtain ⟨h0, h1, h2, h3, h4, h5⟩ := h
  exact ⟨(hb.cell (p := ⟨b, 0, none⟩) hl).trans h0, (hb.cell (p := ⟨b, 1, none⟩) hl).trans h1, (hb.cell (p := ⟨b, 2, none⟩) hl).trans h2, (hb.cell (p := ⟨b, 3, none⟩) hl).trans h3, (hb.cell (p := ⟨b, 4, none⟩) hl).trans h4, (hb.cell (p := ⟨b, 5, none⟩) hl).trans h5⟩
theorem BlkW.new (w : World) (a0 a1 a2 a3 a4 a5 : Value) (t : TypeId) : BlkW (w.alloc (.cells #[a0, a1, a2, a3, a4, a5] t)) w.heap.size a0 a1 a2 a3 a4 a5 :=
  ⟨World.cell?_alloc_mark w _ _ _ 0, World.cell?_alloc_mark w _ _ _ 1, World.cell?_alloc_mark w _ _ _ 2, World.cell?_alloc_mark w _ _ _ 3, World.cell?_alloc_mark w _ _ _ 4, World.cell?_alloc_mark w _ _ _ 5⟩
def BlkR (x : World) (b : Nat) (c m a0 a1 a2 a3 a4 a5 : Value) : Prop := (x.cell? ⟨b, 0, none⟩ = some c ∧ x.cell? ⟨b, 1, none⟩ = some m ∧ x.cell? ⟨b, 2, none⟩ = some a0 ∧ x.cell? ⟨b, 3, none⟩ = some a1 ∧ x.cell? ⟨b, 4, none⟩ = some a2 ∧ x.cell? ⟨b, 5, none⟩ = some a3 ∧ x.cell? ⟨b, 6, none⟩ = some a4 ∧ x.cell? ⟨b, 7, none⟩ = some a5) ∧ b < x.heap.size
theorem BlkR.kept {x x' : World} {b : Nat} {c m a0 a1 a2 a3 a4 a5 : Value} (h : BlkR x b c m a0 a1 a2 a3 a4 a5) (hb : x'.heap[b]? = x.heap[b]?) (hs : x.heap.size ≤ x'.heap.size) : BlkR x' b c m a0 a1 a2 a3 a4 a5 := by
  obtain ⟨⟨h0, h1, h2, h3, h4, h5, h6, h7⟩, hl⟩ := h
  have k : ∀ p, x'.cell? ⟨b, p, none⟩ = x.cell? ⟨b, p, none⟩ := fun p => World.cell?_of_block (w := x) (a := ⟨b, p, none⟩) hb
  exact ⟨⟨(k 0).trans h0, (k 1).trans h1, (k 2).trans h2, (k 3).trans h3, (k 4).trans h4, (k 5).trans h5, (k 6).trans h6, (k 7).trans h7⟩, Nat.lt_of_lt_of_le hl hs⟩
theorem BlkR.later {x x' : World} {b : Nat} {c m a0 a1 a2 a3 a4 a5 : Value} (h : BlkR x b c m a0 a1 a2 a3 a4 a5) (hb : Below x.heap.size x x') : BlkR x' b c m a0 a1 a2 a3 a4 a5 := h.kept (hb.block b h.2) hb.size
theorem BlkR.new (w : World) (c m a0 a1 a2 a3 a4 a5 : Value) (t : TypeId) : BlkR (w.alloc (.cells #[c, m, a0, a1, a2, a3, a4, a5] t)) w.heap.size c m a0 a1 a2 a3 a4 a5 :=
  ⟨⟨World.cell?_alloc_mark w _ _ _ 0, World.cell?_alloc_mark w _ _ _ 1, World.cell?_alloc_mark w _ _ _ 2, World.cell?_alloc_mark w _ _ _ 3, World.cell?_alloc_mark w _ _ _ 4, World.cell?_alloc_mark w _ _ _ 5, World.cell?_alloc_mark w _ _ _ 6, World.cell?_alloc_mark w _ _ _ 7⟩, by simp⟩
end Go.Proofs.YtphfiojhpfdpdaaGreat

namespace Go.Proofs.YtphfiojhpfdpdaaGreat
open Go.RowKit

theorem hid_mkW {p : Prop} (h : p) : Hid p := h
/-- The answer's block: eight cells, none frozen. -/
def BlkZ (x : World) (b : Nat) (a0 a1 a2 a3 a4 a5 a6 a7 : Value) : Prop := BlkR x b a0 a1 a2 a3 a4 a5 a6 a7 ∧ ∀ p, p < 8 → x.frozen? ⟨b, p, none⟩ = false
theorem BlkZ.later {x x' : World} {b : Nat} {a0 a1 a2 a3 a4 a5 a6 a7 : Value} (h : BlkZ x b a0 a1 a2 a3 a4 a5 a6 a7) (hb : Below x.heap.size x x') : BlkZ x' b a0 a1 a2 a3 a4 a5 a6 a7 := ⟨h.1.later hb, fun p hp => (hb.frozen (p := ⟨b, p, none⟩) h.1.2).trans (h.2 p hp)⟩
theorem BlkZ.new (w : World) (a0 a1 a2 a3 a4 a5 a6 a7 : Value) (t : TypeId) : BlkZ (w.alloc (.cells #[a0, a1, a2, a3, a4, a5, a6, a7] t)) w.heap.size a0 a1 a2 a3 a4 a5 a6 a7 := ⟨BlkR.new w _ _ _ _ _ _ _ _ _, fun p _ => by simp⟩
theorem setCell_other {x : World} {b i j : Nat} {u v : Value} (hn : i ≠ j) (h : x.cell? ⟨b, i, none⟩ = some u) : (x.setCell ⟨b, j, none⟩ v).cell? ⟨b, i, none⟩ = some u := (World.cell?_setCell_other _ _ _ _ (fun e => hn (congrArg Addr.off e).symm)).trans h
def put8 (x : World) (b : Nat) (c0 c1 c2 c3 c4 c5 c6 c7 : Value) : World := (((((((x.setCell ⟨b, 0, none⟩ c0).setCell ⟨b, 1, none⟩ c1).setCell ⟨b, 2, none⟩ c2).setCell ⟨b, 3, none⟩ c3).setCell ⟨b, 4, none⟩ c4).setCell ⟨b, 5, none⟩ c5).setCell ⟨b, 6, none⟩ c6).setCell ⟨b, 7, none⟩ c7
theorem BlkR.put {x : World} {b : Nat} {a0 a1 a2 a3 a4 a5 a6 a7 : Value} (h : BlkR x b a0 a1 a2 a3 a4 a5 a6 a7) (c0 c1 c2 c3 c4 c5 c6 c7 : Value) :
    (put8 x b c0 c1 c2 c3 c4 c5 c6 c7).cell? ⟨b, 0, none⟩ = some c0 ∧ (put8 x b c0 c1 c2 c3 c4 c5 c6 c7).cell? ⟨b, 1, none⟩ = some c1 ∧ (put8 x b c0 c1 c2 c3 c4 c5 c6 c7).cell? ⟨b, 2, none⟩ = some c2 ∧ (put8 x b c0 c1 c2 c3 c4 c5 c6 c7).cell? ⟨b, 3, none⟩ = some c3 ∧ (put8 x b c0 c1 c2 c3 c4 c5 c6 c7).cell? ⟨b, 4, none⟩ = some c4 ∧ (put8 x b c0 c1 c2 c3 c4 c5 c6 c7).cell? ⟨b, 5, none⟩ = some c5 ∧ (put8 x b c0 c1 c2 c3 c4 c5 c6 c7).cell? ⟨b, 6, none⟩ = some c6 ∧ (put8 x b c0 c1 c2 c3 c4 c5 c6 c7).cell? ⟨b, 7, none⟩ = some c7 := by
  obtain ⟨⟨h0, h1, h2, h3, h4, h5, h6, h7⟩, _⟩ := h
  unfold put8
  refine ⟨?_, ?_, ?_, ?_, ?_, ?_, ?_, ?_⟩
  · exact setCell_other (by decide) (setCell_other (by decide) (setCell_other (by decide) (setCell_other (by decide) (setCell_other (by decide) (setCell_other (by decide) (setCell_other (by decide) (World.cell?_setCell_same _ _ _ h0)))))))
  · exact setCell_other (by decide) (setCell_other (by decide) (setCell_other (by decide) (setCell_other (by decide) (setCell_other (by decide) (setCell_other (by decide) (World.cell?_setCell_same _ _ _ (setCell_other (by decide) h1)))))))
  · exact setCell_other (by decide) (setCell_other (by decide) (setCell_other (by decide) (setCell_other (by decide) (setCell_other (by decide) (World.cell?_setCell_same _ _ _ (setCell_other (by decide) (setCell_other (by decide) h2)))))))
  · exact setCell_other (by decide) (setCell_other (by decide) (setCell_other (by decide) (setCell_other (by decide) (World.cell?_setCell_same _ _ _ (setCell_other (by decide) (setCell_other (by decide) (setCell_other (by decide) h3)))))))
  · exact setCell_other (by decide) (setCell_other (by decide) (setCell_other (by decide) (World.cell?_setCell_same _ _ _ (setCell_other (by decide) (setCell_other (by decide) (setCell_other (by decide) (setCell_other (by decide) h4)))))))
  · exact setCell_other (by decide) (setCell_other (by decide) (World.cell?_setCell_same _ _ _ (setCell_other (by decide) (setCell_other (by decide) (setCell_other (by decide) (setCell_other (by decide) (setCell_other (by decide) h5)))))))
  · exact setCell_other (by decide) (World.cell?_setCell_same _ _ _ (setCell_other (by decide) (setCell_other (by decide) (setCell_other (by decide) (setCell_other (by decide) (setCell_other (by decide) (setCell_other (by decide) h6)))))))
  · exact World.cell?_setCell_same _ _ _ (setCell_other (by decide) (setCell_other (by decide) (setCell_other (by decide) (setCell_other (by decide) (setCell_other (by decide) (setCell_other (by decide) (setCell_other (by decide) h7)))))))
theorem below_put8 {w x : World} {b : Nat} (h : Below w.heap.size w x) (hb : w.heap.size ≤ b) (c0 c1 c2 c3 c4 c5 c6 c7 : Value) : Below w.heap.size w (put8 x b c0 c1 c2 c3 c4 c5 c6 c7) := (((((((h.setCell hb _).setCell hb _).setCell hb _).setCell hb _).setCell hb _).setCell hb _).setCell hb _).setCell hb _
theorem grs_put8 {x : World} {B b nr : Nat} {F : Nat → Int} {n : Nat} {S : Nat → Sto} {U : Nat → Nat → Value} {vr vs : Value} (h : Grs x B nr F n S U vr vs) (hb : b < B) (c0 c1 c2 c3 c4 c5 c6 c7 : Value) : Grs (put8 x b c0 c1 c2 c3 c4 c5 c6 c7) B nr F n S U vr vs := by
  have s : ∀ {y : World} (j : Nat) (u : Value), Grs y B nr F n S U vr vs → Grs (y.setCell ⟨b, j, none⟩ u) B nr F n S U vr vs := fun j u q => ⟨q.1.far (Or.inl (by show b < B; exact hb)) _, q.2.far (by show b < B; exact hb) _⟩
  exact s _ _ (s _ _ (s _ _ (s _ _ (s _ _ (s _ _ (s _ _ (s _ _ h)))))))
theorem fineR_put8 {x : World} {lo tp b nr : Nat} {F : Nat → Int} {n : Nat} {S : Nat → Sto} {ra : Option Addr} {rc : Nat} {sa : Option Addr} {U : Nat → Nat → Value} {z : Nat → Nat} (h : FineR x lo tp nr F n S ra rc sa U z) (hb : b + 1 ≤ lo) (c0 c1 c2 c3 c4 c5 c6 c7 : Value) : FineR (put8 x b c0 c1 c2 c3 c4 c5 c6 c7) lo tp nr F n S ra rc sa U z := by
  have s : ∀ {y : World} (j : Nat) (u : Value), FineR y lo tp nr F n S ra rc sa U z → FineR (y.setCell ⟨b, j, none⟩ u) lo tp nr F n S ra rc sa U z := fun j u q => q.within (within_set _ b j _) hb
  exact s _ _ (s _ _ (s _ _ (s _ _ (s _ _ (s _ _ (s _ _ (s _ _ h)))))))
end Go.Proofs.YtphfiojhpfdpdaaGreat

namespace Go.Proofs.YtphfiojhpfdpdaaGreat
open Go.RowKit

theorem setCell_otherE {x : World} {b i j : Nat} {u v : Value} (hn : i ≠ j) (h : x.cell? ⟨b, i, none⟩ = some u) : (x.setCell ⟨b, j, none⟩ v).cell? ⟨b, i, none⟩ = some u := (World.cell?_setCell_other _ _ _ _ (fun e => hn (congrArg Addr.off e).symm)).trans h
theorem Blk6.put0 {x : World} {b : Nat} {a0 a1 a2 a3 a4 a5 : Value} (h : Blk6 x b a0 a1 a2 a3 a4 a5) (c0 : Value) : Blk6 (x.setCell ⟨b, 0, none⟩ c0) b c0 a1 a2 a3 a4 a5 := by
  obtain ⟨⟨h0, h1, h2, h3, h4, h5⟩, f0, f1, f2, f3, f4, f5⟩ := h
  refine ⟨⟨?_, ?_, ?_, ?_, ?_, ?_⟩, by simpa using f0, by simpa using f1, by simpa using f2, by simpa using f3, by simpa using f4, by simpa using f5⟩
  · exact World.cell?_setCell_same _ _ _ h0
  · exact setCell_otherE (by decide) h1
  · exact setCell_otherE (by decide) h2
  · exact setCell_otherE (by decide) h3
  · exact setCell_otherE (by decide) h4
  · exact setCell_otherE (by decide) h5
theorem Blk6.put12 {x : World} {b : Nat} {a0 a1 a2 a3 a4 a5 : Value} (h : Blk6 x b a0 a1 a2 a3 a4 a5) (c1 c2 : Value) : Blk6 ((x.setCell ⟨b, 1, none⟩ c1).setCell ⟨b, 2, none⟩ c2) b a0 c1 c2 a3 a4 a5 := by
  obtain ⟨⟨h0, h1, h2, h3, h4, h5⟩, f0, f1, f2, f3, f4, f5⟩ := h
  refine ⟨⟨?_, ?_, ?_, ?_, ?_, ?_⟩, by simpa using f0, by simpa using f1, by simpa using f2, by simpa using f3, by simpa using f4, by simpa using f5⟩
  · exact setCell_otherE (by decide) (setCell_otherE (by decide) h0)
  · exact setCell_otherE (by decide) (World.cell?_setCell_same _ _ _ h1)
  · exact World.cell?_setCell_same _ _ _ (setCell_otherE (by decide) h2)
  · exact setCell_otherE (by decide) (setCell_otherE (by decide) h3)
  · exact setCell_otherE (by decide) (setCell_otherE (by decide) h4)
  · exact setCell_otherE (by decide) (setCell_otherE (by decide) h5)
theorem Blk6.put34 {x : World} {b : Nat} {a0 a1 a2 a3 a4 a5 : Value} (h : Blk6 x b a0 a1 a2 a3 a4 a5) (c3 c4 : Value) : Blk6 ((x.setCell ⟨b, 3, none⟩ c3).setCell ⟨b, 4, none⟩ c4) b a0 a1 a2 c3 c4 a5 := by
  obtain ⟨⟨h0, h1, h2, h3, h4, h5⟩, f0, f1, f2, f3, f4, f5⟩ := h
  refine ⟨⟨?_, ?_, ?_, ?_, ?_, ?_⟩, by simpa using f0, by simpa using f1, by simpa using f2, by simpa using f3, by simpa using f4, by simpa using f5⟩
  · exact setCell_otherE (by decide) (setCell_otherE (by decide) h0)
  · exact setCell_otherE (by decide) (setCell_otherE (by decide) h1)
  · exact setCell_otherE (by decide) (setCell_otherE (by decide) h2)
  · exact setCell_otherE (by decide) (World.cell?_setCell_same _ _ _ h3)
  · exact World.cell?_setCell_same _ _ _ (setCell_otherE (by decide) h4)
  · exact setCell_otherE (by decide) (setCell_otherE (by decide) h5)
theorem Blk6.put5 {x : World} {b : Nat} {a0 a1 a2 a3 a4 a5 : Value} (h : Blk6 x b a0 a1 a2 a3 a4 a5) (c5 : Value) : Blk6 (x.setCell ⟨b, 5, none⟩ c5) b a0 a1 a2 a3 a4 c5 := by
  obtain ⟨⟨h0, h1, h2, h3, h4, h5⟩, f0, f1, f2, f3, f4, f5⟩ := h
  refine ⟨⟨?_, ?_, ?_, ?_, ?_, ?_⟩, by simpa using f0, by simpa using f1, by simpa using f2, by simpa using f3, by simpa using f4, by simpa using f5⟩
  · exact setCell_otherE (by decide) h0
  · exact setCell_otherE (by decide) h1
  · exact setCell_otherE (by decide) h2
  · exact setCell_otherE (by decide) h3
  · exact setCell_otherE (by decide) h4
  · exact World.cell?_setCell_same _ _ _ h5
theorem Blk6.putAll {x : World} {b : Nat} {a0 a1 a2 a3 a4 a5 : Value} (h : Blk6 x b a0 a1 a2 a3 a4 a5) (c0 c1 c2 c3 c4 c5 : Value) : Blk6 ((((((x.setCell ⟨b, 0, none⟩ c0).setCell ⟨b, 1, none⟩ c1).setCell ⟨b, 2, none⟩ c2).setCell ⟨b, 3, none⟩ c3).setCell ⟨b, 4, none⟩ c4).setCell ⟨b, 5, none⟩ c5) b c0 c1 c2 c3 c4 c5 := by
  obtain ⟨⟨h0, h1, h2, h3, h4, h5⟩, f0, f1, f2, f3, f4, f5⟩ := h
  refine ⟨⟨?_, ?_, ?_, ?_, ?_, ?_⟩, by simpa using f0, by simpa using f1, by simpa using f2, by simpa using f3, by simpa using f4, by simpa using f5⟩
  · exact setCell_otherE (by decide) (setCell_otherE (by decide) (setCell_otherE (by decide) (setCell_otherE (by decide) (setCell_otherE (by decide) (World.cell?_setCell_same _ _ _ h0)))))
  · exact setCell_otherE (by decide) (setCell_otherE (by decide) (setCell_otherE (by decide) (setCell_otherE (by decide) (World.cell?_setCell_same _ _ _ (setCell_otherE (by decide) h1)))))
  · exact setCell_otherE (by decide) (setCell_otherE (by decide) (setCell_otherE (by decide) (World.cell?_setCell_same _ _ _ (setCell_otherE (by decide) (setCell_otherE (by decide) h2)))))
  · exact setCell_otherE (by decide) (setCell_otherE (by decide) (World.cell?_setCell_same _ _ _ (setCell_otherE (by decide) (setCell_otherE (by decide) (setCell_otherE (by decide) h3)))))
  · exact setCell_otherE (by decide) (World.cell?_setCell_same _ _ _ (setCell_otherE (by decide) (setCell_otherE (by decide) (setCell_otherE (by decide) (setCell_otherE (by decide) h4)))))
  · exact World.cell?_setCell_same _ _ _ (setCell_otherE (by decide) (setCell_otherE (by decide) (setCell_otherE (by decide) (setCell_otherE (by decide) (setCell_otherE (by decide) h5)))))

theorem Blk6.farE {x : World} {b : Nat} {a0 a1 a2 a3 a4 a5 : Value} (h : Blk6 x b a0 a1 a2 a3 a4 a5) {p : Addr} (hp : b ≠ p.block) (u : Value) : Blk6 (x.setCell p u) b a0 a1 a2 a3 a4 a5 := h.kept (Below.heap_setCell x p u b hp)
set_option maxRecDepth 100000 in
set_option maxHeartbeats 4000000 in
theorem eqWorldT_same (nw nx bd : Int) (nr : Nat) (F : Nat → Int) (n : Nat) (S : Nat → Sto) (V U : Nat → Nat → Value) (ra : Option Addr) (rc : Nat) (sa : Option Addr) (sc : Nat) (qa : Option Addr) (qc : Nat) (pa : Option Addr) (pc : Nat) (nt : Nat) (T : Nat → Tx) (X Y : Nat → Value) (ta : Option Addr) (tc : Nat) (ya : Option Addr) (yc : Nat) (B B' : Nat) (w : World) (h : Grs w B nr F n S V (.slice ra nr rc) (.slice sa n sc)) (h' : Grs w B' nr F n S U (.slice qa nr qc) (.slice pa n pc)) (ht : Txs w B nt T X (.slice ta nt tc)) (ht' : Txs w B' nt T Y (.slice ya nt yc)) (hs : nr ≤ 1048576 ∧ n ≤ 1048576 ∧ ∀ i, i < n → SmallS (S i)) (hx : nt ≤ 1048576 ∧ ∀ i, i < nt → (T i).m ≤ 1048576) :
    Calls Tryz.prog 10 #[.agg #[.int .i64 nw, .int .i64 nx, .int .i64 bd, .slice ra nr rc, .slice sa n sc, .slice ta nt tc], .agg #[.int .i64 nw, .int .i64 nx, .int .i64 bd, .slice qa nr qc, .slice pa n pc, .slice ya nt yc]] w fun e w' => e = .returned (.bool true) ∧ Below w.heap.size w w' := by
  have H : Hid (Grs w B nr F n S V (.slice ra nr rc) (.slice sa n sc) ∧ Grs w B' nr F n S U (.slice qa nr qc) (.slice pa n pc)) := ⟨h, h'⟩
  have HX : Hid (Txs w B nt T X (.slice ta nt tc) ∧ Txs w B' nt T Y (.slice ya nt yc)) := ⟨ht, ht'⟩
  have HN : Hid ((nr ≤ 1048576 ∧ n ≤ 1048576 ∧ ∀ i, i < n → SmallS (S i)) ∧ (nt ≤ 1048576 ∧ ∀ i, i < nt → (T i).m ≤ 1048576)) := ⟨hs, hx⟩
  clear h h' hs ht ht' hx
  go_enter Tryz.func10, Tryz.ntmps10
  go_wp2_with fail
  refine (eqOracle_same nx bd _).mono ?_
  rintro e w1 ⟨rfl, hw1⟩
  have q1 : Below w.heap.size w w1 := by
    rw [hw1]
    exact ((((Below.refl w.heap.size w).alloc (Nat.le_refl _) _).alloc (by simp) _).alloc (by simp; omega) _).alloc (by simp; omega) _
  have B0 : Hid (Blk6 w1 w.heap.size (.int .i64 nw) (.int .i64 nx) (.int .i64 bd) (.slice ra nr rc) (.slice sa n sc) (.slice ta nt tc) ∧ Blk6 w1 (w.heap.size + 1) (.int .i64 nw) (.int .i64 nx) (.int .i64 bd) (.slice qa nr qc) (.slice pa n pc) (.slice ya nt yc)) := by
    have k := Blk6.new w (.int .i64 nw) (.int .i64 nx) (.int .i64 bd) (.slice ra nr rc) (.slice sa n sc) (.slice ta nt tc) 39
    have k' := Blk6.new (w.alloc (.cells #[.int .i64 nw, .int .i64 nx, .int .i64 bd, .slice ra nr rc, .slice sa n sc, .slice ta nt tc] 39)) (.int .i64 nw) (.int .i64 nx) (.int .i64 bd) (.slice qa nr qc) (.slice pa n pc) (.slice ya nt yc) 39
    rw [World.size_alloc] at k'
    rw [hw1]
    exact ⟨((k.later (below_alloc _ _)).later (below_alloc _ _)).later (below_alloc _ _), (k'.later (below_alloc _ _)).later (below_alloc _ _)⟩
  have Q1 : Hid (Below w.heap.size w w1) := q1
  clear hw1 q1
  obtain ⟨⟨⟨s0, s1, s2, s3, s4, s5⟩, _⟩, ⟨t0, t1, t2, t3, t4, t5⟩, _⟩ := B0.out
  go_wp2_with fail
  refine (eqGroups_same nr F n S V U _ _ _ _ B B' _ (H.out.1.later Q1.out) (H.out.2.later Q1.out) HN.out.1.1 HN.out.1.2.1 HN.out.1.2.2).mono ?_
  rintro e w2 ⟨rfl, q2⟩
  have Q : Hid (Below w.heap.size w w2) := Q1.out.trans (q2.mono Q1.out.size)
  have B2 : Hid (Blk6 w2 w.heap.size (.int .i64 nw) (.int .i64 nx) (.int .i64 bd) (.slice ra nr rc) (.slice sa n sc) (.slice ta nt tc) ∧ Blk6 w2 (w.heap.size + 1) (.int .i64 nw) (.int .i64 nx) (.int .i64 bd) (.slice qa nr qc) (.slice pa n pc) (.slice ya nt yc)) := ⟨B0.out.1.later q2, B0.out.2.later q2⟩
  clear s0 s1 s2 s3 s4 s5 t0 t1 t2 t3 t4 t5 q2 Q1 B0
  obtain ⟨⟨⟨s0, s1, s2, s3, s4, s5⟩, _⟩, ⟨t0, t1, t2, t3, t4, t5⟩, _⟩ := B2.out
  go_wp2_with fail
  refine (eqTxnS_same nt T X Y _ _ B B' _ (HX.out.1.later Q.out) (HX.out.2.later Q.out) HN.out.2.1 HN.out.2.2).mono ?_
  rintro e w3 ⟨rfl, q3⟩
  have Q3 : Hid (Below w.heap.size w w3) := Q.out.trans (q3.mono Q.out.size)
  clear q3 Q s0 s1 s2 s3 s4 s5 t0 t1 t2 t3 t4 t5 B2
  go_wp2
  go_ret
  exact ⟨rfl, Q3.out⟩
/-- A world that a call has laid: groups and transactions, each in blocks of its own. -/
def NewWd (w : World) (nw nx bd : Int) (nr : Nat) (F : Nat → Int) (n : Nat) (S : Nat → Sto) (nt : Nat) (T : Nat → Tx) (e : Ending) (w' : World) : Prop :=
  ∃ ra rc g U z gt Y zt, e = .returned (.agg #[.int .i64 nw, .int .i64 nx, .int .i64 bd, .slice ra nr rc, .slice (some ⟨g, 0, none⟩) n n, .slice (some ⟨gt, 0, none⟩) nt nt]) ∧ FineG w' w.heap.size nr F n S ra rc g U z ∧ (z n ≤ gt ∧ gt < w'.heap.size ∧ FillT w' gt nt nt T Y ∧ FineT w' zt nt T Y ∧ zt 0 = gt + 1 ∧ (∀ i, i ≤ nt → gt < zt i) ∧ zt nt ≤ w'.heap.size) ∧ Below w.heap.size w w'
end Go.Proofs.YtphfiojhpfdpdaaGreat

namespace Go.Proofs.YtphfiojhpfdpdaaGreat
open Go.RowKit

/-- Transactions under way are transactions of their own. -/
theorem WrkT.ownT {x : World} {B n : Nat} {T : Nat → Tx} {Y : Nat → Value} {va : Option Addr} {vc : Nat} (h : WrkT x B n T Y (.slice va n vc)) : OwnT x B x.heap.size n T Y va := by
  refine ⟨fun hn => ?_, fun i hi => ⟨(h.items i hi).1, h.free i hi, (h.items i hi).2.1, fun h0 q hq => ?_⟩, h.apart⟩
  · rcases h.own.2 with ⟨_, e⟩ | ⟨g, cap, cur, e, hB, hg, _⟩
    · omega
    · obtain ⟨rfl, rfl⟩ : va = some ⟨g, 0, none⟩ ∧ vc = cap := by simpa using e
      have hlt : g < x.heap.size := (Array.getElem?_eq_some_iff.1 hg).1
      refine ⟨g, rfl, ⟨hB, hlt⟩, ⟨hlt, fun p hp => ?_⟩, fun i hi h0 e' => ((h.items i hi).2.2 h0 g e').1 rfl⟩
      have hc := World.ownsRow.cellAt h.own p (by omega)
      have hv := tvals_get T Y n (p / 6) (p % 6) (by omega) (by omega)
      rw [show p / 6 * 6 + p % 6 = p by omega] at hv
      exact ⟨⟨⟨_, hc.trans hv⟩, World.ownsRow.frozenAt h.own p⟩, fun _ => hc.trans hv⟩
  · obtain ⟨a, c, e, hr⟩ := (h.items i hi).1
    obtain ⟨g, o, e1, h1, h2, _⟩ := hr h0
    have : g = q := by rw [e, e1] at hq; simpa [Value.ownBlock] using hq
    omega
theorem withinP_set (x : World) (z j : Nat) (u : Value) : Within z (z + 1) x (x.setCell ⟨z, j, none⟩ u) := ⟨rfl, rfl, rfl, by simp [World.setCell], fun q _ ho => Below.heap_setCell x ⟨z, j, none⟩ u q (fun e => by have e' : q = z := e; omega)⟩
theorem withinP_set6 (x : World) (z : Nat) (u0 u1 u2 u3 u4 u5 : Value) : Within z (z + 1) x ((((((x.setCell ⟨z, 0, none⟩ u0).setCell ⟨z, 1, none⟩ u1).setCell ⟨z, 2, none⟩ u2).setCell ⟨z, 3, none⟩ u3).setCell ⟨z, 4, none⟩ u4).setCell ⟨z, 5, none⟩ u5) :=
  (((((withinP_set x z 0 u0).trans (withinP_set _ z 1 u1)).trans (withinP_set _ z 2 u2)).trans (withinP_set _ z 3 u3)).trans (withinP_set _ z 4 u4)).trans (withinP_set _ z 5 u5)
theorem field_groups (c a b : Value) (w : World) : (Instr.field 120 (.agg #[c, a, b]) 1).run Tryz.prog w = .ok (.agg #[a, b]) w := by kernel_rfl
set_option maxRecDepth 100000 in
set_option maxHeartbeats 8000000 in
theorem told_is (b : Nat) (nw nx bd : Int) (n : Nat) (F : Nat → Int) (S : Nat → Sto) (g : Nat) (P : Nat → Nat) (Bw nt : Nat) (va : Option Addr) (vc : Nat) (mv : Bool) (x0 : World) (hk : Blk5w x0 b (.int .i64 nw) (.int .i64 nx) (.int .i64 bd) (.slice (some ⟨g, 0, none⟩) n n) (.slice va nt vc)) (hW : Work x0 Bw n F S (some ⟨g, 0, none⟩) P) (hn : n ≤ 12) :
    Calls Tryz.prog 35 #[.pointer (some ⟨b, 0, none⟩), .bool mv] x0 fun e w' => ∃ ra rc sa sc U z, e = .returned (.agg #[.int .i64 0, .bool mv, .int .i64 nw, .int .i64 nx, .int .i64 bd, .slice ra n rc, .slice sa n sc, .slice va nt vc]) ∧ FineR w' x0.heap.size w'.heap.size n F n S ra rc sa U z ∧ Below x0.heap.size x0 w' := by
  have HW : Hid (Work x0 Bw n F S (some ⟨g, 0, none⟩) P) := hW
  have HZ : Hid (BlkZ (x0.alloc (.cells #[.int .i64 0, .bool false, .int .i64 0, .int .i64 0, .int .i64 0, .slice none 0 0, .slice none 0 0, .slice none 0 0] 41)).drew x0.heap.size (.int .i64 0) (.bool false) (.int .i64 0) (.int .i64 0) (.int .i64 0) (.slice none 0 0) (.slice none 0 0) (.slice none 0 0)) := BlkZ.new x0 _ _ _ _ _ _ _ _ _
  have hS0 : (fun X : World => Blk5w X b (.int .i64 nw) (.int .i64 nx) (.int .i64 bd) (.slice (some ⟨g, 0, none⟩) n n) (.slice va nt vc) ∧ Below x0.heap.size x0 X) (x0.alloc (.cells #[.int .i64 0, .bool false, .int .i64 0, .int .i64 0, .int .i64 0, .slice none 0 0, .slice none 0 0, .slice none 0 0] 41)).drew := ⟨hk.later (below_alloc _ _).drew, (below_alloc _ _).drew⟩
  clear hk hW
  go_enter Tryz.func35, Tryz.ntmps35
  go_wp2_with fail
  refine wp_region_held_drew (S := fun X : World => Blk5w X b (.int .i64 nw) (.int .i64 nx) (.int .i64 bd) (.slice (some ⟨g, 0, none⟩) n n) (.slice va nt vc) ∧ Below x0.heap.size x0 X) (by kernel_rfl) hS0 (fun hS => ?_)
  generalize (x0.alloc (.cells #[.int .i64 0, .bool false, .int .i64 0, .int .i64 0, .int .i64 0, .slice none 0 0, .slice none 0 0, .slice none 0 0] 41)).drew = wa at hS HZ ⊢
  clear hS0
  have hzl : x0.heap.size < wa.heap.size := HZ.out.1.2
  have HBZ : Hid (b ≠ wa.heap.size) := by have := hS.1.lt; unfold Hid; omega
  refine tkH 0 ?_ hS (fun wx hx => ?_) ?_; rotate_left
  · obtain ⟨⟨hx0, hx1, hx2, hx3, hx4⟩, _⟩ := hx.1; have hfl := field_groups; go_simp; try with_reducible rfl
  refine tkH 1 ?_ hS (fun wx hx => ?_) ?_; rotate_left
  · obtain ⟨⟨hx0, hx1, hx2, hx3, hx4⟩, _⟩ := hx.1; have hfl := field_groups; go_simp; try with_reducible rfl
  refine tkH 2 ?_ hS (fun wx hx => ?_) ?_; rotate_left
  · obtain ⟨⟨hx0, hx1, hx2, hx3, hx4⟩, _⟩ := hx.1; have hfl := field_groups; go_simp; try with_reducible rfl
  try simp only [Act.put, List.getElem_toArray, List.getElem_cons_zero, List.getElem_cons_succ, List.setIfInBounds_toArray, List.set_cons_succ, List.set_cons_zero]
  refine tkH 3 ?_ hS (fun wx hx => ?_) ?_; rotate_left
  · obtain ⟨⟨hx0, hx1, hx2, hx3, hx4⟩, _⟩ := hx.1; have hfl := field_groups; go_simp; try with_reducible rfl
  refine tkH 4 ?_ hS (fun wx hx => ?_) ?_; rotate_left
  · obtain ⟨⟨hx0, hx1, hx2, hx3, hx4⟩, _⟩ := hx.1; have hfl := field_groups; go_simp; try with_reducible rfl
  refine tkH 5 ?_ hS (fun wx hx => ?_) ?_; rotate_left
  · obtain ⟨⟨hx0, hx1, hx2, hx3, hx4⟩, _⟩ := hx.1; have hfl := field_groups; go_simp; try with_reducible rfl
  try simp only [Act.put, List.getElem_toArray, List.getElem_cons_zero, List.getElem_cons_succ, List.setIfInBounds_toArray, List.set_cons_succ, List.set_cons_zero]
  refine tkH 6 ?_ hS (fun wx hx => ?_) ?_; rotate_left
  · obtain ⟨⟨hx0, hx1, hx2, hx3, hx4⟩, _⟩ := hx.1; have hfl := field_groups; go_simp; try with_reducible rfl
  refine tkH 7 ?_ hS (fun wx hx => ?_) ?_; rotate_left
  · obtain ⟨⟨hx0, hx1, hx2, hx3, hx4⟩, _⟩ := hx.1; have hfl := field_groups; go_simp; try with_reducible rfl
  refine tkH 8 ?_ hS (fun wx hx => ?_) ?_; rotate_left
  · obtain ⟨⟨hx0, hx1, hx2, hx3, hx4⟩, _⟩ := hx.1; have hfl := field_groups; go_simp; try with_reducible rfl
  try simp only [Act.put, List.getElem_toArray, List.getElem_cons_zero, List.getElem_cons_succ, List.setIfInBounds_toArray, List.set_cons_succ, List.set_cons_zero]
  refine tkH 9 ?_ hS (fun wx hx => ?_) ?_; rotate_left
  · obtain ⟨⟨hx0, hx1, hx2, hx3, hx4⟩, _⟩ := hx.1; have hfl := field_groups; go_simp; try with_reducible rfl
  refine tkH 10 ?_ hS (fun wx hx => ?_) ?_; rotate_left
  · obtain ⟨⟨hx0, hx1, hx2, hx3, hx4⟩, _⟩ := hx.1; have hfl := field_groups; go_simp; try with_reducible rfl
  refine tkH 11 ?_ hS (fun wx hx => ?_) ?_; rotate_left
  · obtain ⟨⟨hx0, hx1, hx2, hx3, hx4⟩, _⟩ := hx.1; have hfl := field_groups; go_simp; try with_reducible rfl
  try simp only [Act.put, List.getElem_toArray, List.getElem_cons_zero, List.getElem_cons_succ, List.setIfInBounds_toArray, List.set_cons_succ, List.set_cons_zero]
  refine tkH 14 ?_ hS (fun wx hx => ?_) ?_; rotate_left
  · obtain ⟨⟨hx0, hx1, hx2, hx3, hx4⟩, _⟩ := hx.1; have hfl := field_groups; go_simp; try with_reducible rfl
  refine tkH 15 ?_ hS (fun wx hx => ?_) ?_; rotate_left
  · obtain ⟨⟨hx0, hx1, hx2, hx3, hx4⟩, _⟩ := hx.1; have hfl := field_groups; go_simp; try with_reducible rfl
  refine tkH 16 ?_ hS (fun wx hx => ?_) ?_; rotate_left
  · obtain ⟨⟨hx0, hx1, hx2, hx3, hx4⟩, _⟩ := hx.1; have hfl := field_groups; go_simp; try with_reducible rfl
  try simp only [Act.put, List.getElem_toArray, List.getElem_cons_zero, List.getElem_cons_succ, List.setIfInBounds_toArray, List.set_cons_succ, List.set_cons_zero]
  refine tkH 17 ?_ hS (fun wx hx => ?_) ?_; rotate_left
  · obtain ⟨⟨hx0, hx1, hx2, hx3, hx4⟩, _⟩ := hx.1; have hfl := field_groups; go_simp; try with_reducible rfl
  try simp only [Act.put, List.getElem_toArray, List.getElem_cons_zero, List.getElem_cons_succ, List.setIfInBounds_toArray, List.set_cons_succ, List.set_cons_zero]
  refine wpAnyH_ready (rs := [12, 19]) (by kernel_rfl) (by simp) ?_
  refine AllReadyH.cons rfl (fun K hK => ?_) (AllReadyH.cons rfl (fun K hK => ?_) AllReadyH.nil)
  focus
    go_simp
    go_wp2_with fail
    refine (groupsTold_is n _ n F S P Bw _ (HW.out.later hS.2).1 (HW.out.later hS.2).2 hn).mono ?_
    rintro e w1 ⟨ra, rc, sa, sc, U, z, rfl, hF, q1⟩
    have hS1 : Blk5w w1 b (.int .i64 nw) (.int .i64 nx) (.int .i64 bd) (.slice (some ⟨g, 0, none⟩) n n) (.slice va nt vc) ∧ Below x0.heap.size x0 w1 := ⟨hS.1.later q1, hS.2.trans (q1.mono hS.2.size)⟩
    have HFR0 : Hid (FineR w1 (x0.heap.size + 1) w1.heap.size n F n S ra rc sa U z ∧ BlkZ w1 x0.heap.size (.int .i64 0) (.bool false) (.int .i64 0) (.int .i64 0) (.int .i64 0) (.slice none 0 0) (.slice none 0 0) (.slice none 0 0)) := ⟨hF.mono hzl, HZ.out.later q1⟩
    clear hF q1
    go_wp2_with fail
    refine hK.out _ _ hS1 (fun hS => ?_)
    clear hK K hS1
    refine tkH 13 ?_ hS (fun wx hx => ?_) ?_; rotate_left
    · obtain ⟨⟨hx0, hx1, hx2, hx3, hx4⟩, _⟩ := hx.1; have hfl := field_groups; go_simp; try with_reducible rfl
    refine tkH 18 ?_ hS (fun wx hx => ?_) ?_; rotate_left
    · obtain ⟨⟨hx0, hx1, hx2, hx3, hx4⟩, _⟩ := hx.1; have hfl := field_groups; go_simp; try with_reducible rfl
    try simp only [Act.put, List.getElem_toArray, List.getElem_cons_zero, List.getElem_cons_succ, List.setIfInBounds_toArray, List.set_cons_succ, List.set_cons_zero]
    refine rdH 19 (fun K hK => ?_)
    go_simp
    have HS1 : Hid (Below x0.heap.size x0 w1) := hS.2
    have HKB : Hid (Blk5w w1 b (.int .i64 nw) (.int .i64 nx) (.int .i64 bd) (.slice (some ⟨g, 0, none⟩) n n) (.slice va nt vc)) := hS.1
    have HL1 : Hid (x0.heap.size < w1.heap.size) := HFR0.out.2.1.2
    refine hK.out _ _ ⟨hS.1.later (below_alloc _ _), hS.2.alloc hS.2.size _⟩ (fun hS => ?_)
    clear hK K
    refine rdH 20 (fun K hK => ?_)
    go_simp
    have HWB : Hid (Blk6 (w1.alloc (.cells #[.int .i64 nw, .int .i64 nx, .int .i64 bd, .slice ra n rc, .slice sa n sc, .slice va nt vc] 39)) w1.heap.size (.int .i64 nw) (.int .i64 nx) (.int .i64 bd) (.slice ra n rc) (.slice sa n sc) (.slice va nt vc)) := Blk6.new w1 _ _ _ _ _ _ _
    have HRB : Hid (BlkZ (w1.alloc (.cells #[.int .i64 nw, .int .i64 nx, .int .i64 bd, .slice ra n rc, .slice sa n sc, .slice va nt vc] 39)) x0.heap.size (.int .i64 0) (.bool false) (.int .i64 0) (.int .i64 0) (.int .i64 0) (.slice none 0 0) (.slice none 0 0) (.slice none 0 0)) := HFR0.out.2.later (below_alloc _ _)
    have HFR : Hid (FineR (w1.alloc (.cells #[.int .i64 nw, .int .i64 nx, .int .i64 bd, .slice ra n rc, .slice sa n sc, .slice va nt vc] 39)) (x0.heap.size + 1) w1.heap.size n F n S ra rc sa U z) := HFR0.out.1.later (below_alloc _ _)
    have HBX : Hid (Below x0.heap.size x0 (w1.alloc (.cells #[.int .i64 nw, .int .i64 nx, .int .i64 bd, .slice ra n rc, .slice sa n sc, .slice va nt vc] 39))) := HS1.out.alloc HS1.out.size _
    refine hK.out _ _ ⟨?_, HBX.out⟩ (fun hS => ?_)
    · exact HKB.out.later (below_alloc _ _)
    clear hK K hS HFR0 HS1 HKB
    refine wpAnyH_done (by kernel_rfl) ?_ _
    go_simp
    generalize w1.alloc (.cells #[.int .i64 nw, .int .i64 nx, .int .i64 bd, .slice ra n rc, .slice sa n sc, .slice va nt vc] 39) = wz at HWB HRB HFR HBX ⊢
    have hne : x0.heap.size ≠ w1.heap.size := by have := HL1.out; omega
  rotate_left
  focus
    go_simp
    have HKZ : Hid (Blk6 (wa.alloc (.cells #[.int .i64 0, .int .i64 0, .int .i64 0, .slice none 0 0, .slice none 0 0, .slice none 0 0] 39)) wa.heap.size (.int .i64 0) (.int .i64 0) (.int .i64 0) (.slice none 0 0) (.slice none 0 0) (.slice none 0 0)) := Blk6.new wa _ _ _ _ _ _ _
    have HZ2 : Hid (BlkZ (wa.alloc (.cells #[.int .i64 0, .int .i64 0, .int .i64 0, .slice none 0 0, .slice none 0 0, .slice none 0 0] 39)) x0.heap.size (.int .i64 0) (.bool false) (.int .i64 0) (.int .i64 0) (.int .i64 0) (.slice none 0 0) (.slice none 0 0) (.slice none 0 0)) := HZ.out.later (below_alloc _ _)
    refine hK.out _ _ ⟨hS.1.later (below_alloc _ _), hS.2.alloc hS.2.size _⟩ (fun hS => ?_)
    clear hK K
    refine rdH 12 (fun K hK => ?_)
    go_simp
    go_wp2_with fail
    refine (groupsTold_is n _ n F S P Bw _ (HW.out.later hS.2).1 (HW.out.later hS.2).2 hn).mono ?_
    rintro e w1 ⟨ra, rc, sa, sc, U, z, rfl, hF, q1⟩
    have hS1 : Blk5w w1 b (.int .i64 nw) (.int .i64 nx) (.int .i64 bd) (.slice (some ⟨g, 0, none⟩) n n) (.slice va nt vc) ∧ Below x0.heap.size x0 w1 := ⟨hS.1.later q1, hS.2.trans (q1.mono hS.2.size)⟩
    have HFR0 : Hid (FineR w1 (wa.heap.size + 1) w1.heap.size n F n S ra rc sa U z ∧ BlkZ w1 x0.heap.size (.int .i64 0) (.bool false) (.int .i64 0) (.int .i64 0) (.int .i64 0) (.slice none 0 0) (.slice none 0 0) (.slice none 0 0) ∧ Blk6 w1 wa.heap.size (.int .i64 0) (.int .i64 0) (.int .i64 0) (.slice none 0 0) (.slice none 0 0) (.slice none 0 0)) := ⟨hF.mono (by simp), HZ2.out.later q1, HKZ.out.later q1⟩
    have HKB : Hid (Blk5w w1 b (.int .i64 nw) (.int .i64 nx) (.int .i64 bd) (.slice (some ⟨g, 0, none⟩) n n) (.slice va nt vc) ∧ Below x0.heap.size x0 w1) := hS1
    clear hF q1
    go_wp2_with fail
    refine hK.out _ _ hS1 (fun hS => ?_)
    clear hK K hS1 HKZ HZ2
    refine tkH 13 ?_ hS (fun wx hx => ?_) ?_; rotate_left
    · obtain ⟨⟨hx0, hx1, hx2, hx3, hx4⟩, _⟩ := hx.1; have hfl := field_groups; go_simp; try with_reducible rfl
    refine tkH 18 ?_ hS (fun wx hx => ?_) ?_; rotate_left
    · obtain ⟨⟨hx0, hx1, hx2, hx3, hx4⟩, _⟩ := hx.1; have hfl := field_groups; go_simp; try with_reducible rfl
    try simp only [Act.put, List.getElem_toArray, List.getElem_cons_zero, List.getElem_cons_succ, List.setIfInBounds_toArray, List.set_cons_succ, List.set_cons_zero]
    refine rdH 20 (fun K hK => ?_)
    obtain ⟨⟨y0, y1, y2, y3, y4, y5⟩, v0, v1, v2, v3, v4, v5⟩ := HFR0.out.2.2
    go_simp
    have hbz : b ≠ wa.heap.size := HBZ.out
    have HWB : Hid (Blk6 ((((((w1.setCell ⟨wa.heap.size, 0, none⟩ (.int .i64 nw)).setCell ⟨wa.heap.size, 1, none⟩ (.int .i64 nx)).setCell ⟨wa.heap.size, 2, none⟩ (.int .i64 bd)).setCell ⟨wa.heap.size, 3, none⟩ (.slice ra n rc)).setCell ⟨wa.heap.size, 4, none⟩ (.slice sa n sc)).setCell ⟨wa.heap.size, 5, none⟩ (.slice va nt vc)) wa.heap.size (.int .i64 nw) (.int .i64 nx) (.int .i64 bd) (.slice ra n rc) (.slice sa n sc) (.slice va nt vc)) := Blk6.putAll HFR0.out.2.2 _ _ _ _ _ _
    have heq : ∀ q, q ≠ wa.heap.size → ((((((w1.setCell ⟨wa.heap.size, 0, none⟩ (.int .i64 nw)).setCell ⟨wa.heap.size, 1, none⟩ (.int .i64 nx)).setCell ⟨wa.heap.size, 2, none⟩ (.int .i64 bd)).setCell ⟨wa.heap.size, 3, none⟩ (.slice ra n rc)).setCell ⟨wa.heap.size, 4, none⟩ (.slice sa n sc)).setCell ⟨wa.heap.size, 5, none⟩ (.slice va nt vc)).heap[q]? = w1.heap[q]? := fun q hq => by
      have s6 : ∀ (y : World) (j : Nat) (u : Value), (y.setCell ⟨wa.heap.size, j, none⟩ u).heap[q]? = y.heap[q]? := fun y j u => Below.heap_setCell y ⟨wa.heap.size, j, none⟩ u q hq
      rw [s6, s6, s6, s6, s6, s6]
    have hnz : x0.heap.size ≠ wa.heap.size := by omega
    have hle6 : x0.heap.size + 1 ≤ wa.heap.size + 1 := by omega
    have hle7 : x0.heap.size ≤ wa.heap.size := by omega
    have HSZ : Hid (((((((w1.setCell ⟨wa.heap.size, 0, none⟩ (.int .i64 nw)).setCell ⟨wa.heap.size, 1, none⟩ (.int .i64 nx)).setCell ⟨wa.heap.size, 2, none⟩ (.int .i64 bd)).setCell ⟨wa.heap.size, 3, none⟩ (.slice ra n rc)).setCell ⟨wa.heap.size, 4, none⟩ (.slice sa n sc)).setCell ⟨wa.heap.size, 5, none⟩ (.slice va nt vc)).heap.size = w1.heap.size) := by
      have s7 : ∀ (y : World) (j : Nat) (u : Value), (y.setCell ⟨wa.heap.size, j, none⟩ u).heap.size = y.heap.size := fun y j u => by simp [World.setCell]
      unfold Hid
      rw [s7, s7, s7, s7, s7, s7]
    have HRB : Hid (BlkZ ((((((w1.setCell ⟨wa.heap.size, 0, none⟩ (.int .i64 nw)).setCell ⟨wa.heap.size, 1, none⟩ (.int .i64 nx)).setCell ⟨wa.heap.size, 2, none⟩ (.int .i64 bd)).setCell ⟨wa.heap.size, 3, none⟩ (.slice ra n rc)).setCell ⟨wa.heap.size, 4, none⟩ (.slice sa n sc)).setCell ⟨wa.heap.size, 5, none⟩ (.slice va nt vc)) x0.heap.size (.int .i64 0) (.bool false) (.int .i64 0) (.int .i64 0) (.int .i64 0) (.slice none 0 0) (.slice none 0 0) (.slice none 0 0)) := ⟨HFR0.out.2.1.1.kept (heq _ hnz) (Nat.le_of_eq HSZ.out.symm), fun p hp => (World.frozen?_of_block (w := w1) (a := ⟨x0.heap.size, p, none⟩) (heq _ hnz)).trans (HFR0.out.2.1.2 p hp)⟩
    have HWI : Hid (Within wa.heap.size (wa.heap.size + 1) w1 ((((((w1.setCell ⟨wa.heap.size, 0, none⟩ (.int .i64 nw)).setCell ⟨wa.heap.size, 1, none⟩ (.int .i64 nx)).setCell ⟨wa.heap.size, 2, none⟩ (.int .i64 bd)).setCell ⟨wa.heap.size, 3, none⟩ (.slice ra n rc)).setCell ⟨wa.heap.size, 4, none⟩ (.slice sa n sc)).setCell ⟨wa.heap.size, 5, none⟩ (.slice va nt vc))) := withinP_set6 w1 wa.heap.size _ _ _ _ _ _
    have HFR : Hid (FineR ((((((w1.setCell ⟨wa.heap.size, 0, none⟩ (.int .i64 nw)).setCell ⟨wa.heap.size, 1, none⟩ (.int .i64 nx)).setCell ⟨wa.heap.size, 2, none⟩ (.int .i64 bd)).setCell ⟨wa.heap.size, 3, none⟩ (.slice ra n rc)).setCell ⟨wa.heap.size, 4, none⟩ (.slice sa n sc)).setCell ⟨wa.heap.size, 5, none⟩ (.slice va nt vc)) (x0.heap.size + 1) w1.heap.size n F n S ra rc sa U z) := (HFR0.out.1.within HWI.out (Nat.le_refl _)).mono hle6
    have HBX : Hid (Below x0.heap.size x0 ((((((w1.setCell ⟨wa.heap.size, 0, none⟩ (.int .i64 nw)).setCell ⟨wa.heap.size, 1, none⟩ (.int .i64 nx)).setCell ⟨wa.heap.size, 2, none⟩ (.int .i64 bd)).setCell ⟨wa.heap.size, 3, none⟩ (.slice ra n rc)).setCell ⟨wa.heap.size, 4, none⟩ (.slice sa n sc)).setCell ⟨wa.heap.size, 5, none⟩ (.slice va nt vc))) := (((((HKB.out.2.setCell hle7 _).setCell hle7 _).setCell hle7 _).setCell hle7 _).setCell hle7 _).setCell hle7 _
    refine hK.out _ _ ⟨HKB.out.1.kept (heq _ hbz), HBX.out⟩ (fun hS => ?_)
    clear hK K hS HFR0 HKB y0 y1 y2 y3 y4 y5 v0 v1 v2 v3 v4 v5 heq HSZ HWI
    refine wpAnyH_done (by kernel_rfl) ?_ _
    go_simp
    generalize ((((((w1.setCell ⟨wa.heap.size, 0, none⟩ (.int .i64 nw)).setCell ⟨wa.heap.size, 1, none⟩ (.int .i64 nx)).setCell ⟨wa.heap.size, 2, none⟩ (.int .i64 bd)).setCell ⟨wa.heap.size, 3, none⟩ (.slice ra n rc)).setCell ⟨wa.heap.size, 4, none⟩ (.slice sa n sc)).setCell ⟨wa.heap.size, 5, none⟩ (.slice va nt vc)) = wz at HWB HRB HFR HBX ⊢
  rotate_left
  all_goals
    obtain ⟨⟨y0, y1, y2, y3, y4, y5⟩, _⟩ := HWB.out
    obtain ⟨⟨⟨k0, k1, k2, k3, k4, k5, k6, k7⟩, _⟩, fz⟩ := HRB.out
    have HP := hid_mkW (HRB.out.1.put (.int .i64 0) (.bool mv) (.int .i64 nw) (.int .i64 nx) (.int .i64 bd) (.slice ra n rc) (.slice sa n sc) (.slice va nt vc))
    have f0 := fz 0 (by decide)
    have f1 := fz 1 (by decide)
    have f2 := fz 2 (by decide)
    have f3 := fz 3 (by decide)
    have f4 := fz 4 (by decide)
    have f5 := fz 5 (by decide)
    have f6 := fz 6 (by decide)
    have f7 := fz 7 (by decide)
    clear fz
    go_wp2
    obtain ⟨q0, q1, q2, q3, q4, q5, q6, q7⟩ := HP.out
    unfold put8 at q0 q1 q2 q3 q4 q5 q6 q7
    exact bodyPost_ret (v := .agg #[.int .i64 0, .bool mv, .int .i64 nw, .int .i64 nx, .int .i64 bd, .slice ra n rc, .slice sa n sc, .slice va nt vc]) (by simp [results, Tryz.results35, go_sem, q0, q1, q2, q3, q4, q5, q6, q7]) rfl ⟨ra, rc, sa, sc, U, z, rfl, ((fineR_put8 HFR.out (Nat.le_refl _) _ _ _ _ _ _ _ _).up (Nat.le_succ _)), below_put8 HBX.out (Nat.le_refl _) _ _ _ _ _ _ _ _⟩
end Go.Proofs.YtphfiojhpfdpdaaGreat

namespace Go.Proofs.YtphfiojhpfdpdaaGreat
open Go.RowKit

set_option maxRecDepth 100000 in
set_option maxHeartbeats 4000000 in
theorem l8Copy_is (s c u st a : Int) (m : Nat) (L : Nat → Int) (y : Value) (B : Nat) (w : World) (h : Row w B 3 m L y) (hm : m ≤ 12) :
    Calls Tryz.prog 55 #[.agg #[.int .i64 s, .int .i64 c, .int .i64 u, .int .i64 st, .int .i64 a, y]] w fun e w' => ∃ ao cp, e = .returned (.agg #[.int .i64 s, .int .i64 c, .int .i64 u, .int .i64 st, .int .i64 a, .slice ao m cp]) ∧ (Row w' w.heap.size 3 m L (.slice ao m cp) ∧ Free w' (m * 3) (.slice ao m cp)) ∧ CapOk (.slice ao m cp) ∧ Below w.heap.size w w' := by
  obtain ⟨yo, yc, rfl⟩ := h.form
  have H : Hid (Row w B 3 m L (.slice yo m yc)) := h
  clear h
  obtain ⟨i0, hi, iz0, iz1, iz2⟩ := info_parts infoz_ItemW
  have HC0 : Hid (Blk6 (((w.alloc (.cells #[.int .i64 s, .int .i64 c, .int .i64 u, .int .i64 st, .int .i64 a, .slice yo m yc] 69)).alloc (.cells #[.int .i64 0, .int .i64 0, .int .i64 0, .int .i64 0, .int .i64 0, .slice none 0 0] 69)).alloc (.cells #[] 90)) w.heap.size (.int .i64 s) (.int .i64 c) (.int .i64 u) (.int .i64 st) (.int .i64 a) (.slice yo m yc) ∧ Blk6 (((w.alloc (.cells #[.int .i64 s, .int .i64 c, .int .i64 u, .int .i64 st, .int .i64 a, .slice yo m yc] 69)).alloc (.cells #[.int .i64 0, .int .i64 0, .int .i64 0, .int .i64 0, .int .i64 0, .slice none 0 0] 69)).alloc (.cells #[] 90)) (w.heap.size + 1) (.int .i64 0) (.int .i64 0) (.int .i64 0) (.int .i64 0) (.int .i64 0) (.slice none 0 0)) :=
    ⟨((Blk6.new w _ _ _ _ _ _ _).alloc _).alloc _, by have := (Blk6.new (w.alloc (.cells #[.int .i64 s, .int .i64 c, .int .i64 u, .int .i64 st, .int .i64 a, .slice yo m yc] 69)) (.int .i64 0) (.int .i64 0) (.int .i64 0) (.int .i64 0) (.int .i64 0) (.slice none 0 0) 69).alloc (.cells #[] 90); simpa using this⟩
  go_enter Tryz.func55, Tryz.ntmps55
  go_wp2_with (at_builtin; refine wpList_appX 90 i0 (.agg #[.int .i64 0, .int .i64 0, .int .i64 0]) 3 24 rfl _ _ 54 rfl Tryz.underlying54 hi iz0 iz1 iz2 rfl (by omega) (by omega) _ (w.heap.size + 1 + 1) 0 [] (.slice (some ⟨w.heap.size + 1 + 1, 0, none⟩) 0 0) rfl (OwnM.lit0 ((w.alloc (.cells #[.int .i64 s, .int .i64 c, .int .i64 u, .int .i64 st, .int .i64 a, .slice yo m yc] 69)).alloc (.cells #[.int .i64 0, .int .i64 0, .int .i64 0, .int .i64 0, .int .i64 0, .slice none 0 0] 69)) _ _ _ (by simp)) B m L (.slice yo m yc) rfl (((H.out.alloc _).alloc _).alloc _) (by omega) (by simp) ?_; intro ao2 cp2 w2 O2 G2 B2; have KA := HC0.out.1.kept (G2.block _ (by simp; omega) (fun e => by simp [Value.ownBlock] at e; omega)); have KB := HC0.out.2.kept (G2.block _ (by simp) (fun e => by simp [Value.ownBlock] at e)); have KB2 := hid_mkW KB; obtain ⟨⟨k0, k1, k2, k3, k4, k5⟩, f0, f1, f2, f3, f4, f5⟩ := KA; obtain ⟨⟨l0, l1, l2, l3, l4, l5⟩, e0, e1, e2, e3, e4, e5⟩ := KB)
  rw [Nat.zero_add, List.nil_append] at O2
  have hr : Row w2 (w.heap.size + 1 + 1) 3 m L (.slice ao2 m cp2) := by
    have := (O2.own (nums_length _ _)).row.1
    obtain ⟨ao, cp, e, hr⟩ := this
    refine ⟨ao, cp, e, fun h0 => ?_⟩
    obtain ⟨g', o', e1, e2, e3, e4⟩ := hr h0
    exact ⟨g', o', e1, e2, e3, fun p hp => by rw [e4 p hp]; simp [nums, hp]⟩
  have hf : Free w2 (m * 3) (.slice ao2 m cp2) := (O2.own (nums_length _ _)).row.2
  have hcp : CapOk (.slice ao2 m cp2) := fun _ _ _ e => by cases e; exact O2.cap
  have hbw : Below w.heap.size w w2 := (((below_alloc w _).alloc (by simp) _).alloc (by simp; omega) _).grown G2 (by simp; omega) (fun q e => by simp [Value.ownBlock] at e; omega)
  have KZ := (KB2.out.kept (Below.heap_setCell w2 ⟨w.heap.size, 5, none⟩ (.slice ao2 m cp2) (w.heap.size + 1) (by simp))).putAll (.int .i64 s) (.int .i64 c) (.int .i64 u) (.int .i64 st) (.int .i64 a) (.slice ao2 m cp2)
  obtain ⟨⟨q0, q1, q2, q3, q4, q5⟩, _⟩ := KZ
  have hl1 : w.heap.size + 1 < w.heap.size + 1 + 1 := by omega
  have hl0 : w.heap.size < w.heap.size + 1 + 1 := by omega
  have hg1 : w.heap.size ≤ w.heap.size + 1 := by omega
  refine bodyPost_ret (v := .agg #[.int .i64 s, .int .i64 c, .int .i64 u, .int .i64 st, .int .i64 a, .slice ao2 m cp2]) (by simp [results, Tryz.results55, go_sem, q0, q1, q2, q3, q4, q5]) rfl ⟨ao2, cp2, rfl, ⟨?_, ((((((hf.far _ _).far _ _).far _ _).far _ _).far _ _).far _ _).far _ _⟩, hcp, ?_⟩
  · exact (((((((hr.far (Or.inl hl0) _).far (Or.inl hl1) _).far (Or.inl hl1) _).far (Or.inl hl1) _).far (Or.inl hl1) _).far (Or.inl hl1) _).far (Or.inl hl1) _).mono (by omega)
  · exact ((((((hbw.setCell (Nat.le_refl _) _).setCell hg1 _).setCell hg1 _).setCell hg1 _).setCell hg1 _).setCell hg1 _).setCell hg1 _
end Go.Proofs.YtphfiojhpfdpdaaGreat

namespace Go.Proofs.YtphfiojhpfdpdaaGreat
open Go.RowKit

theorem Row.above {w w' : World} {B m n : Nat} {F : Nat → Int} {v : Value} (h : Row w B m n F v) (hs : w.heap.size ≤ w'.heap.size) (hb : ∀ q, B ≤ q → q < w.heap.size → w'.heap[q]? = w.heap[q]?) : Row w' B m n F v := by
  obtain ⟨ao, cp, rfl, hr⟩ := h
  refine ⟨ao, cp, rfl, fun h0 => ?_⟩
  obtain ⟨g, o, e, hB, hg, hc⟩ := hr h0
  exact ⟨g, o, e, hB, Nat.lt_of_lt_of_le hg hs, fun p hp => (World.cell?_of_block (w := w) (a := ⟨g, o + p, none⟩) (hb g hB hg)).trans (hc p hp)⟩
theorem Stos.above {w w' : World} {B n : Nat} {S : Nat → Sto} {V : Nat → Nat → Value} {v : Value} (h : Stos w B n S V v) (hs : w.heap.size ≤ w'.heap.size) (hb : ∀ q, B ≤ q → q < w.heap.size → w'.heap[q]? = w.heap[q]?) : Stos w' B n S V v := by
  obtain ⟨⟨ao, cp, rfl, h1⟩, h2⟩ := h
  refine ⟨⟨ao, cp, rfl, fun hn => ?_⟩, fun i hi => ⟨(h2 i hi).1.above hs hb, (h2 i hi).2.1.above hs hb, (h2 i hi).2.2.above hs hb⟩⟩
  obtain ⟨g, o, rfl, hB, hg, hc⟩ := h1 hn
  exact ⟨g, o, rfl, hB, Nat.lt_of_lt_of_le hg hs, fun i hi => ⟨(World.cell?_of_block (w := w) (a := ⟨g, o + i * 3, none⟩) (hb g hB hg)).trans (hc i hi).1, (World.cell?_of_block (w := w) (a := ⟨g, o + i * 3 + 1, none⟩) (hb g hB hg)).trans (hc i hi).2.1, (World.cell?_of_block (w := w) (a := ⟨g, o + i * 3 + 2, none⟩) (hb g hB hg)).trans (hc i hi).2.2⟩⟩
theorem MarkG.above {w w' : World} {lo nr n : Nat} {S : Nat → Sto} {ra : Option Addr} {rc : Nat} {sa : Option Addr} {sc : Nat} {U : Nat → Nat → Value} (h : MarkG w lo nr n S ra rc sa sc U) (hs : w.heap.size ≤ w'.heap.size) (hb : ∀ q, lo ≤ q → q < w.heap.size → w'.heap[q]? = w.heap[q]?) : MarkG w' lo nr n S ra rc sa sc U := ⟨h.1.above hs hb, h.2.above hs hb⟩
/-- What bounds transactions' numbers. -/
def SmallX (nt : Nat) (T : Nat → Tx) : Prop := (nt ≤ 1048576 ∧ ∀ i, i < nt → (T i).m ≤ 1048576) ∧ sumN (sizeX T) nt ≤ 1048576
/-- A world that is numbered. -/
def MarkW (w : World) (lt lo nr n : Nat) (S : Nat → Sto) (ra : Option Addr) (rc : Nat) (sa : Option Addr) (sc : Nat) (U : Nat → Nat → Value) (nt : Nat) (T : Nat → Tx) (Y : Nat → Value) (va : Option Addr) (vc : Nat) : Prop :=
  MarkG w lo nr n S ra rc sa sc U ∧ Txs w lt nt (numT T (1 + nr * 3 + (sumN (markT S) n : Nat))) Y (.slice va nt vc)
theorem MarkW.later {w w' : World} {lt lo nr n : Nat} {S : Nat → Sto} {ra : Option Addr} {rc : Nat} {sa : Option Addr} {sc : Nat} {U : Nat → Nat → Value} {nt : Nat} {T : Nat → Tx} {Y : Nat → Value} {va : Option Addr} {vc : Nat} (h : MarkW w lt lo nr n S ra rc sa sc U nt T Y va vc) (hb : Below w.heap.size w w') : MarkW w' lt lo nr n S ra rc sa sc U nt T Y va vc := ⟨h.1.later hb, h.2.later hb⟩
set_option maxRecDepth 100000 in
set_option maxHeartbeats 2000000 in
theorem eqWorldResultT_same (c : Int) (mv : Bool) (nw nx bd : Int) (nr : Nat) (F : Nat → Int) (n : Nat) (S : Nat → Sto) (V U : Nat → Nat → Value) (ra : Option Addr) (rc : Nat) (sa : Option Addr) (sc : Nat) (qa : Option Addr) (qc : Nat) (pa : Option Addr) (pc : Nat) (nt : Nat) (T : Nat → Tx) (X Y : Nat → Value) (ta : Option Addr) (tc : Nat) (ya : Option Addr) (yc : Nat) (B B' : Nat) (w : World) (h : Grs w B nr F n S V (.slice ra nr rc) (.slice sa n sc)) (h' : Grs w B' nr F n S U (.slice qa nr qc) (.slice pa n pc)) (ht : Txs w B nt T X (.slice ta nt tc)) (ht' : Txs w B' nt T Y (.slice ya nt yc)) (hs : SmallG nr n S) (hx : SmallX nt T) :
    Calls Tryz.prog 9 #[.agg #[.int .i64 c, .bool mv, .int .i64 nw, .int .i64 nx, .int .i64 bd, .slice ra nr rc, .slice sa n sc, .slice ta nt tc], .agg #[.int .i64 c, .bool mv, .int .i64 nw, .int .i64 nx, .int .i64 bd, .slice qa nr qc, .slice pa n pc, .slice ya nt yc]] w fun e w' => e = .returned (.bool true) ∧ Below w.heap.size w w' := by
  have H : Hid (Grs w B nr F n S V (.slice ra nr rc) (.slice sa n sc) ∧ Grs w B' nr F n S U (.slice qa nr qc) (.slice pa n pc)) := ⟨h, h'⟩
  have HX : Hid (Txs w B nt T X (.slice ta nt tc) ∧ Txs w B' nt T Y (.slice ya nt yc)) := ⟨ht, ht'⟩
  have HN : Hid (SmallG nr n S ∧ SmallX nt T) := ⟨hs, hx⟩
  clear h h' hs hx ht ht'
  go_enter Tryz.func9, Tryz.ntmps9
  go_wp2_with fail
  refine (eqWorldT_same nw nx bd nr F n S V U ra rc sa sc qa qc pa pc nt T X Y ta tc ya yc B B' _ ((H.out.1.later (below_alloc _ _)).later (below_alloc _ _)) ((H.out.2.later (below_alloc _ _)).later (below_alloc _ _)) ((HX.out.1.later (below_alloc _ _)).later (below_alloc _ _)) ((HX.out.2.later (below_alloc _ _)).later (below_alloc _ _)) ⟨HN.out.1.1, HN.out.1.2.1, HN.out.1.2.2.1⟩ HN.out.2.1).mono ?_
  rintro e w2 ⟨rfl, q2⟩
  have Q : Hid (Below w.heap.size w w2) := ((below_alloc w _).alloc (by simp) _).trans (q2.mono (by simp; omega))
  clear q2
  go_wp2
  go_ret
  exact ⟨rfl, Q.out⟩
set_option maxHeartbeats 2000000 in
theorem markWorldResultT_any (c : Int) (mv : Bool) (nw nx bd : Int) (nr : Nat) (F : Nat → Int) (n : Nat) (S : Nat → Sto) (ra : Option Addr) (rc : Nat) (sa : Option Addr) (sc : Nat) (U : Nat → Nat → Value) (z : Nat → Nat) (nt : Nat) (T : Nat → Tx) (Y : Nat → Value) (va : Option Addr) (vc lt lo tp : Nat) (w : World) (h : FineR w lo tp nr F n S ra rc sa U z) (hO : OwnT w lt lo nt T Y va) (hlt : lt ≤ lo ∧ lo ≤ tp) (hs : SmallG nr n S) (hx : SmallX nt T) :
    Calls Tryz.prog 12 #[.agg #[.int .i64 c, .bool mv, .int .i64 nw, .int .i64 nx, .int .i64 bd, .slice ra nr rc, .slice sa n sc, .slice va nt vc], .int .i64 1] w fun e w' => e = .returned (.int .i64 (1 + nr * 3 + (sumN (markT S) n : Nat) + (sumN (markX T) nt : Nat))) ∧ MarkW w' lt lo nr n S ra rc sa sc U nt T Y va vc ∧ Within lt tp w w' := by
  have H : Hid (FineR w lo tp nr F n S ra rc sa U z ∧ OwnT w lt lo nt T Y va) := ⟨h, hO⟩
  have HN : Hid (SmallG nr n S ∧ SmallX nt T) := ⟨hs, hx⟩
  obtain ⟨t, ht⟩ : ∃ t, sumN (markT S) n = t := ⟨_, rfl⟩
  have HT : Hid (sumN (markT S) n = t) := ht
  have htb : t ≤ 5242880 := by have := markT_le S n; have := hs.2.2.2; omega
  have hrb : nr ≤ 1048576 := hs.1
  obtain ⟨s, hss⟩ : ∃ s, sumN (markX T) nt = s := ⟨_, rfl⟩
  have HSS : Hid (sumN (markX T) nt = s) := hss
  have HI : Hid (∀ x, FineR x lo tp nr F n S ra rc sa U z → OwnT x lt lo nt T Y va → Calls Tryz.prog 11 #[.agg #[.int .i64 nw, .int .i64 nx, .int .i64 bd, .slice ra nr rc, .slice sa n sc, .slice va nt vc], .int .i64 1] x fun e w' => e = .returned (.int .i64 (1 + nr * 3 + (t : Nat) + (s : Nat))) ∧ MarkW w' lt lo nr n S ra rc sa sc U nt T Y va vc ∧ Within lt tp x w') := by
    intro x hx hy
    have X : Hid (FineR x lo tp nr F n S ra rc sa U z ∧ OwnT x lt lo nt T Y va) := ⟨hx, hy⟩
    have hb := X.out.1.2.2.1.2.2
    have k := BlkW.new x (.int .i64 nw) (.int .i64 nx) (.int .i64 bd) (.slice ra nr rc) (.slice sa n sc) (.slice va nt vc) 39
    have K : Hid (BlkW (x.alloc (.cells #[.int .i64 nw, .int .i64 nx, .int .i64 bd, .slice ra nr rc, .slice sa n sc, .slice va nt vc] 39)) x.heap.size (.int .i64 nw) (.int .i64 nx) (.int .i64 bd) (.slice ra nr rc) (.slice sa n sc) (.slice va nt vc)) := k
    clear hx hy ht k hss
    go_enter Tryz.func11, Tryz.ntmps11
    go_wp2_with fail
    refine (markGroups_full nr F n S ra rc sa sc U z lo tp _ (X.out.1.later (below_alloc _ _)) HN.out.1).mono ?_
    rw [HT.out]
    rintro e w1 ⟨rfl, m1, W1⟩
    have O1 : OwnT w1 lt lo nt T Y va := (X.out.2.later (by omega) (below_alloc _ _)).kept W1.size (by simp; omega) (fun q _ hq => W1.block q (by simp; omega) (Or.inl hq))
    have Q : Hid (MarkG w1 lo nr n S ra rc sa sc U ∧ Within lo tp x w1 ∧ OwnT w1 lt lo nt T Y va) := ⟨m1, (Within.grow (below_alloc _ _)).trans W1, O1⟩
    have k5 : w1.cell? ⟨x.heap.size, 5, none⟩ = some (.slice va nt vc) := (World.cell?_of_block (w := x.alloc _) (a := ⟨x.heap.size, 5, none⟩) (W1.block x.heap.size (by simp) (Or.inr hb))).trans K.out.2.2.2.2.2
    clear m1 W1 hb O1
    go_wp2_with fail
    refine (markTxnS_own nt vc lt lo T Y va _ _ Q.out.2.2 HN.out.2.1.2 HN.out.2.2 (by omega) (by omega) HN.out.2.1.1).mono ?_
    rw [HSS.out]
    rintro e w3 ⟨rfl, t3, W3⟩
    have Q3 : Hid (MarkW w3 lt lo nr n S ra rc sa sc U nt T Y va vc ∧ Within lt tp x w3) := ⟨⟨Q.out.1.above W3.size (fun q hq hl => W3.block q hl (Or.inr hq)), by rw [HT.out]; exact t3⟩, (Q.out.2.1.mono hlt.1 (Nat.le_refl _)).trans (W3.mono (Nat.le_refl _) hlt.2)⟩
    clear t3 W3 k5
    go_wp2
    go_ret
    exact ⟨rfl, Q3.out.1, Q3.out.2⟩
  rw [ht, hss]
  clear h hs ht hO hx hss
  go_enter Tryz.func12, Tryz.ntmps12
  go_wp2_with fail
  refine (HI.out _ (H.out.1.later (below_alloc _ _)) (H.out.2.later (Nat.le_trans hlt.2 H.out.1.2.2.1.2.2) (below_alloc _ _))).mono ?_
  rintro e w1 ⟨rfl, m1, W1⟩
  have Q : Hid (MarkW w1 lt lo nr n S ra rc sa sc U nt T Y va vc ∧ Within lt tp w w1) := ⟨m1, (Within.grow (below_alloc _ _)).trans W1⟩
  clear m1 W1
  go_wp2
  go_ret
  exact ⟨rfl, Q.out.1, Q.out.2⟩
set_option maxHeartbeats 2000000 in
theorem heldWorldResultT_any (c : Int) (mv : Bool) (nw nx bd : Int) (nr n : Nat) (S : Nat → Sto) (ra : Option Addr) (rc : Nat) (sa : Option Addr) (sc : Nat) (U : Nat → Nat → Value) (nt : Nat) (T : Nat → Tx) (Y : Nat → Value) (va : Option Addr) (vc lt lo : Nat) (w : World) (h : MarkW w lt lo nr n S ra rc sa sc U nt T Y va vc) (hs : SmallG nr n S) (hx : SmallX nt T) :
    Calls Tryz.prog 13 #[.agg #[.int .i64 c, .bool mv, .int .i64 nw, .int .i64 nx, .int .i64 bd, .slice ra nr rc, .slice sa n sc, .slice va nt vc], .int .i64 1] w fun e w' => e = .returned (.int .i64 (1 + nr * 3 + (sumN (markT S) n : Nat) + (sumN (markX T) nt : Nat))) ∧ Below w.heap.size w w' := by
  have H : Hid (MarkW w lt lo nr n S ra rc sa sc U nt T Y va vc) := h
  have HN : Hid (SmallG nr n S ∧ SmallX nt T) := ⟨hs, hx⟩
  obtain ⟨t, ht⟩ : ∃ t, sumN (markT S) n = t := ⟨_, rfl⟩
  have HT : Hid (sumN (markT S) n = t) := ht
  have htb : t ≤ 5242880 := by have := markT_le S n; have := hs.2.2.2; omega
  have hrb : nr ≤ 1048576 := hs.1
  obtain ⟨s, hss⟩ : ∃ s, sumN (markX T) nt = s := ⟨_, rfl⟩
  have HSS : Hid (sumN (markX T) nt = s) := hss
  have d1 : decide ((1 : Int) + nr * 3 + (t : Nat) < 0) = false := decide_eq_false (by omega)
  have d2 : decide ((1 : Int) + nr * 3 + (t : Nat) + (s : Nat) < 0) = false := decide_eq_false (by omega)
  have HI : Hid (∀ x, MarkW x lt lo nr n S ra rc sa sc U nt T Y va vc → Calls Tryz.prog 41 #[.agg #[.int .i64 nw, .int .i64 nx, .int .i64 bd, .slice ra nr rc, .slice sa n sc, .slice va nt vc], .int .i64 1] x fun e w' => e = .returned (.int .i64 (1 + nr * 3 + (t : Nat) + (s : Nat))) ∧ Below x.heap.size x w') := by
    intro x hx
    have X : Hid (MarkW x lt lo nr n S ra rc sa sc U nt T Y va vc) := hx
    have k := BlkW.new x (.int .i64 nw) (.int .i64 nx) (.int .i64 bd) (.slice ra nr rc) (.slice sa n sc) (.slice va nt vc) 39
    have K : Hid (BlkW (x.alloc (.cells #[.int .i64 nw, .int .i64 nx, .int .i64 bd, .slice ra nr rc, .slice sa n sc, .slice va nt vc] 39)) x.heap.size (.int .i64 nw) (.int .i64 nx) (.int .i64 bd) (.slice ra nr rc) (.slice sa n sc) (.slice va nt vc)) := k
    clear hx ht k hss
    go_enter Tryz.func41, Tryz.ntmps41
    go_wp2_with fail
    refine (heldGroups_any nr n S ra rc sa sc U lo _ (X.out.1.later (below_alloc _ _)) HN.out.1).mono ?_
    rw [HT.out]
    rintro e w1 ⟨rfl, q1⟩
    have Q : Hid (Below x.heap.size x w1) := (below_alloc _ _).trans (q1.mono (by simp))
    have TX : Txs w1 lt nt (numT T (1 + nr * 3 + (t : Nat))) Y (.slice va nt vc) := by have := X.out.2.later Q.out; rw [HT.out] at this; exact this
    have TXH : Hid (Txs w1 lt nt (numT T (1 + nr * 3 + (t : Nat))) Y (.slice va nt vc)) := TX
    obtain ⟨_, _, _, _, _, k5⟩ := K.out.later q1
    clear q1 TX
    go_wp2_with fail
    refine (heldTxnS_any nt T Y _ lt _ _ TXH.out HN.out.2.1.2 HN.out.2.2 (by omega) (by omega) HN.out.2.1.1).mono ?_
    rw [HSS.out]
    rintro e w3 ⟨rfl, hw3⟩
    obtain rfl := hw3.symm
    go_wp2
    go_ret
    exact ⟨rfl, Q.out⟩
  rw [ht, hss]
  clear h hs ht hss hx
  go_enter Tryz.func13, Tryz.ntmps13
  go_wp2_with fail
  refine (HI.out _ (H.out.later (below_alloc _ _))).mono ?_
  rintro e w1 ⟨rfl, q1⟩
  have Q : Hid (Below w.heap.size w w1) := (below_alloc _ _).trans (q1.mono (by simp))
  clear q1
  go_wp2
  go_ret
  exact ⟨rfl, Q.out⟩
end Go.Proofs.YtphfiojhpfdpdaaGreat

