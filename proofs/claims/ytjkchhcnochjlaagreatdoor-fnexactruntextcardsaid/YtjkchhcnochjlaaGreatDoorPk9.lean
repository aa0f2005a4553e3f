/-
  Own text, merged of WrkB, DonE, AcmB, AcmC, RunH, RunG, RunE.
-/
import Derived.Test.YtjkchhcnochjlaaGreatDoorPk8
namespace Go.Proofs.YtjkchhcnochjlaaGreatDoor
open Go.RowKit

theorem infoz_ItemW : (Tryz.prog.info? 116).map (fun i => (i.zero, i.size, i.bytes)) = some (some (.agg #[.int .i64 0, .int .i64 0, .int .i64 0]), 3, 24) := by kernel_rfl
theorem infoz_TxnW : (Tryz.prog.info? 113).map (fun i => (i.zero, i.size, i.bytes)) = some (some (.agg #[.int .i64 0, .int .i64 0, .int .i64 0, .int .i64 0, .int .i64 0, .slice none 0 0]), 6, 64) := by kernel_rfl
/-- What stands while workOn works: the world that came in, in its box; the work in block b; its transactions so far. -/
structure WrkE (w : World) (b B2 : Nat) (nw nx bd : Int) (vr vs vt : Value) (n : Nat) (F : Nat → Int) (S : Nat → Sto) (g : Nat) (P : Nat → Nat) (k : Nat) (T : Nat → Tx) (Y : Nat → Value) (v : Value) (x : World) : Prop where
  below : Below w.heap.size w x
  kb : Blk5w x b (.int .i64 nw) (.int .i64 nx) (.int .i64 bd) (.slice (some ⟨g, 0, none⟩) n n) v
  work : Work x w.heap.size n F S (some ⟨g, 0, none⟩) P
  hb : w.heap.size ≤ b ∧ b < B2 ∧ B2 ≤ x.heap.size
  txs : WrkT x B2 k T Y v
  back : ∃ w1 : World, w1.heap.size = b ∧ Work w1 w.heap.size n F S (some ⟨g, 0, none⟩) P ∧ Below b w1 x
theorem WrkT.far {x : World} {B n : Nat} {T : Nat → Tx} {Y : Nat → Value} {v : Value} (h : WrkT x B n T Y v) {a : Addr} (ha : a.block < B) (u : Value) : WrkT (x.setCell a u) B n T Y v :=
  ⟨ownsRow_setCell_below h.own ha u, fun i hi => ⟨(h.items i hi).1.far (Or.inl ha) u, (h.items i hi).2.1, fun h0 k hk => by have := (h.items i hi).2.2 h0 k hk; simpa using this⟩, fun i hi => (h.free i hi).far _ _, h.apart⟩
theorem Blk5w.set4 {x : World} {b : Nat} {a0 a1 a2 a3 a4 : Value} (h : Blk5w x b a0 a1 a2 a3 a4) (u : Value) : Blk5w (x.setCell ⟨b, 4, none⟩ u) b a0 a1 a2 a3 u := by
  obtain ⟨⟨h0, h1, h2, h3, h4⟩, h5⟩ := h
  refine ⟨⟨?_, ?_, ?_, ?_, ?_⟩, fun j => ?_⟩
  · go_simp
  · go_simp
  · go_simp
  · go_simp
  · go_simp
  · rw [World.frozen?_setCell]; exact h5 j
/-- What stands in the loop: behind w1 lies the work, in block b. -/
structure WrkI (w1 : World) (nw nx bd : Int) (n : Nat) (g : Nat) (k : Nat) (T : Nat → Tx) (Y : Nat → Value) (v : Value) (x : World) : Prop where
  back : Below w1.heap.size w1 x
  kb : Blk5w x w1.heap.size (.int .i64 nw) (.int .i64 nx) (.int .i64 bd) (.slice (some ⟨g, 0, none⟩) n n) v
  txs : WrkT x (w1.heap.size + 1) k T Y v
theorem WrkI.later {w1 : World} {nw nx bd : Int} {n g k : Nat} {T : Nat → Tx} {Y : Nat → Value} {v : Value} {x x' : World} (h : WrkI w1 nw nx bd n g k T Y v x) (hb : Below x.heap.size x x') : WrkI w1 nw nx bd n g k T Y v x' := ⟨h.back.trans (hb.mono h.back.size), h.kb.later hb, h.txs.later hb⟩
set_option maxRecDepth 100000 in
set_option maxHeartbeats 8000000 in
theorem workOn_is (nw nx bd : Int) (nr : Nat) (F : Nat → Int) (n : Nat) (S : Nat → Sto) (V : Nat → Nat → Value) (vr vs : Value) (nt : Nat) (T : Nat → Tx) (X : Nat → Value) (vt : Value) (B : Nat) (w : World) (h : Grs w B nr F n S V vr vs) (hx : Txs w B nt T X vt) (hz : ∀ i, i < n → storeF (S i) = 0) (hn : n = nr) (hm : n ≤ 12) (hnt : nt ≤ 16) (hit : ∀ i, i < nt → 1 ≤ (T i).m ∧ (T i).m ≤ 12) :
    Calls Tryz.prog 69 #[.agg #[.int .i64 nw, .int .i64 nx, .int .i64 bd, vr, vs, vt]] w fun e w' => ∃ b B2 g P Y v, e = .returned (.pointer (some ⟨b, 0, none⟩)) ∧ WrkE w b B2 nw nx bd vr vs vt n F S g P nt T Y v w' := by
  obtain ⟨a0, c0, a1, c1, rfl, rfl⟩ := h.form
  obtain ⟨a2, c2, rfl⟩ := hx.form
  have H : Hid (Blk6 (w.alloc (.cells #[.int .i64 nw, .int .i64 nx, .int .i64 bd, .slice a0 nr c0, .slice a1 n c1, .slice a2 nt c2] 45)) w.heap.size (.int .i64 nw) (.int .i64 nx) (.int .i64 bd) (.slice a0 nr c0) (.slice a1 n c1) (.slice a2 nt c2) ∧ Below w.heap.size w (w.alloc (.cells #[.int .i64 nw, .int .i64 nx, .int .i64 bd, .slice a0 nr c0, .slice a1 n c1, .slice a2 nt c2] 45))) := ⟨Blk6.new w _ _ _ _ _ _ _, below_alloc _ _⟩
  have HG : Hid (Grs w B nr F n S V (.slice a0 nr c0) (.slice a1 n c1) ∧ Txs w B nt T X (.slice a2 nt c2)) := ⟨h, hx⟩
  have HZ : Hid ((∀ i, i < n → storeF (S i) = 0) ∧ n = nr) := ⟨hz, hn⟩
  have HIT : Hid (∀ i, i < nt → 1 ≤ (T i).m ∧ (T i).m ≤ 12) := hit
  clear h hx hz hn hit
  go_enter Tryz.func69, Tryz.ntmps69
  go_upto_region 1 with fail
  refine wp_region_held_drew (S := fun x : World => Blk6 x w.heap.size (.int .i64 nw) (.int .i64 nx) (.int .i64 bd) (.slice a0 nr c0) (.slice a1 n c1) (.slice a2 nt c2) ∧ Below w.heap.size w x) (by kernel_rfl) ⟨H.out.1, H.out.2.drew⟩ (fun hS => ?_)
  clear H
  refine tkH 0 ?_ hS (fun wx hx => ?_) ?_; rotate_left
  · obtain ⟨⟨⟨hx0, hx1, hx2, hx3, hx4, hx5⟩, _⟩, _⟩ := hx; go_simp; try with_reducible rfl
  refine tkH 1 ?_ hS (fun wx hx => ?_) ?_; rotate_left
  · obtain ⟨⟨⟨hx0, hx1, hx2, hx3, hx4, hx5⟩, _⟩, _⟩ := hx; go_simp; try with_reducible rfl
  refine tkH 2 ?_ hS (fun wx hx => ?_) ?_; rotate_left
  · obtain ⟨⟨⟨hx0, hx1, hx2, hx3, hx4, hx5⟩, _⟩, _⟩ := hx; go_simp; try with_reducible rfl
  refine tkH 3 ?_ hS (fun wx hx => ?_) ?_; rotate_left
  · obtain ⟨⟨⟨hx0, hx1, hx2, hx3, hx4, hx5⟩, _⟩, _⟩ := hx; go_simp; try with_reducible rfl
  refine tkH 4 ?_ hS (fun wx hx => ?_) ?_; rotate_left
  · obtain ⟨⟨⟨hx0, hx1, hx2, hx3, hx4, hx5⟩, _⟩, _⟩ := hx; go_simp; try with_reducible rfl
  refine tkH 5 ?_ hS (fun wx hx => ?_) ?_; rotate_left
  · obtain ⟨⟨⟨hx0, hx1, hx2, hx3, hx4, hx5⟩, _⟩, _⟩ := hx; go_simp; try with_reducible rfl
  refine rdH 6 (fun K hK => ?_)
  go_simp
  go_wp2_with fail
  refine (pointToAll_is nr F n S V _ _ B _ (HG.out.1.later hS.2) HZ.out.1 HZ.out.2 hm).mono ?_
  rintro e w1 ⟨g, P, rfl, hP, hT, q1⟩
  have hS1 : Blk6 w1 w.heap.size (.int .i64 nw) (.int .i64 nx) (.int .i64 bd) (.slice a0 nr c0) (.slice a1 n c1) (.slice a2 nt c2) ∧ Below w.heap.size w w1 := ⟨hS.1.later q1, hS.2.trans (q1.mono hS.2.size)⟩
  have HW1 : Hid (Work w1 w.heap.size n F S (some ⟨g, 0, none⟩) P ∧ Below w.heap.size w w1) := ⟨⟨hP, hT.mono hS.2.size⟩, hS.2.trans (q1.mono hS.2.size)⟩
  have HL1 : Hid (w.heap.size < w1.heap.size) := Nat.lt_of_lt_of_le hS.1.lt q1.size
  clear hS hP hT q1
  go_wp2_with fail
  refine hK.out _ _ hS1 (fun hS => ?_)
  clear hK K hS1
  refine tkH 7 ?_ hS (fun wx hx => ?_) ?_; rotate_left
  · obtain ⟨⟨⟨hx0, hx1, hx2, hx3, hx4, hx5⟩, _⟩, _⟩ := hx; go_simp; try with_reducible rfl
  refine rdH 8 (fun K hK => ?_)
  go_simp
  refine hK.out _ _ ⟨hS.1.alloc _, hS.2.alloc hS.2.size _⟩ (fun hS => ?_)
  clear hK K
  have E0 : Hid ((WrkI w1 nw nx bd n g 0 T (fun _ => .bool true) (.slice none 0 0)) (w1.alloc (.cells #[.int .i64 nw, .int .i64 nx, .int .i64 bd, .slice (some ⟨g, 0, none⟩) n n, .slice none 0 0] 175)) ∧ Blk6 (w1.alloc (.cells #[.int .i64 nw, .int .i64 nx, .int .i64 bd, .slice (some ⟨g, 0, none⟩) n n, .slice none 0 0] 175)) w.heap.size (.int .i64 nw) (.int .i64 nx) (.int .i64 bd) (.slice a0 nr c0) (.slice a1 n c1) (.slice a2 nt c2)) :=
    ⟨⟨below_alloc _ _, ⟨⟨World.cell?_alloc_mark w1 _ _ _ 0, World.cell?_alloc_mark w1 _ _ _ 1, World.cell?_alloc_mark w1 _ _ _ 2, World.cell?_alloc_mark w1 _ _ _ 3, World.cell?_alloc_mark w1 _ _ _ 4⟩, fun j => by simp⟩, ⟨World.ownsRow_nil _ _ _ _, fun i hi => absurd hi (Nat.not_lt_zero i), fun i hi => absurd hi (Nat.not_lt_zero i), fun i _ hi => absurd hi (Nat.not_lt_zero i)⟩⟩, hS.1⟩
  have hlw : w.heap.size < w1.heap.size := HL1.out
  refine tkH 9 ?_ hS (fun wx hx => ?_) ?_; rotate_left
  · obtain ⟨⟨⟨hx0, hx1, hx2, hx3, hx4, hx5⟩, _⟩, _⟩ := hx; go_simp; try with_reducible rfl
  clear hS HL1
  refine wpAnyH_done (by kernel_rfl) ?_ _
  go_simp
  obtain ⟨⟨p0, p1, p2, p3, p4, p5⟩, _⟩ := E0.out.2
  obtain ⟨i0, hi, iz0, iz1, iz2⟩ := info_parts infoz_ItemW
  obtain ⟨i1, hi1, jz0, jz1, jz2⟩ := info_parts infoz_TxnW
  go_wp2
  clear p0 p1 p2 p3 p4 p5
  go_loopw [18] (fun i wr => ∃ (k : Nat) (Y : Nat → Value) (v : Value), k ≤ nt ∧ i = .int .i64 k ∧ Hid (WrkI w1 nw nx bd n g k T Y v wr)) (fun i _ => nt - (intOf i).toNat)
  case atStart => exact ⟨0, _, _, Nat.zero_le _, rfl, E0.out.1⟩
  case round =>
    clear E0
    obtain ⟨k, Y, v, hk, rfl, HE⟩ := hrel
    by_cases hlt : k < nt
    case neg =>
      obtain rfl : k = nt := by omega
      go_wp2
      go_ret
      exact ⟨w1.heap.size, w1.heap.size + 1, g, P, Y, v, rfl, HW1.out.2.trans (HE.out.back.mono HW1.out.2.size), HE.out.kb, HW1.out.1.later HE.out.back, ⟨HW1.out.2.size, Nat.lt_succ_self _, HE.out.kb.lt⟩, HE.out.txs, w1, rfl, HW1.out.1, HE.out.back⟩
    have hmk := HIT.out k hlt
    obtain ⟨gx, ox, hax, _, hgx, ⟨x0, x1, x2, x3, x4, x5⟩, hrow, hcap⟩ := (HG.out.2.later (HW1.out.2.trans (HE.out.back.mono HW1.out.2.size))).at hlt
    subst hax
    obtain ⟨t, ht⟩ : ∃ t, T k = t := ⟨_, rfl⟩
    have HT : Hid (T k = t) := ht
    rw [ht] at x0 x1 x2 x3 x4 hrow hmk
    obtain ⟨y, hy⟩ : ∃ y, X k = y := ⟨_, rfl⟩
    rw [hy] at x5 hrow hcap
    clear ht hy
    obtain ⟨yo, yc, rfl⟩ := hrow.form
    have HR : Hid (Row wr B 3 t.m t.L (.slice yo t.m yc)) := hrow
    have hzb : w1.heap.size + 1 ≤ wr.heap.size := HE.out.kb.lt
    have HC0 : Hid (Blk6 (wr.alloc (.cells #[.int .i64 t.s, .int .i64 t.c, .int .i64 t.u, .int .i64 t.st, .int .i64 t.a, .slice yo t.m yc] 113)) wr.heap.size (.int .i64 t.s) (.int .i64 t.c) (.int .i64 t.u) (.int .i64 t.st) (.int .i64 t.a) (.slice yo t.m yc)) := Blk6.new wr _ _ _ _ _ _ _
    clear hrow hcap
    go_wp2_with (at_builtin; refine wpList_appX 116 i0 (.agg #[.int .i64 0, .int .i64 0, .int .i64 0]) 3 24 rfl _ _ 111 rfl Tryz.underlying111 hi iz0 iz1 iz2 rfl (by omega) (by omega) _ (w1.heap.size + 1) 0 [] (.slice none 0 0) rfl (OwnM.nil _ _ _ _) B t.m t.L (.slice yo t.m yc) rfl (HR.out.alloc _) (by omega) (by simp; omega) ?_; intro ao2 cp2 w2 O2 G2 B2; have KC := HC0.out.kept (G2.block _ (by simp) (fun e => by simp [Value.ownBlock] at e)); obtain ⟨⟨k0, k1, k2, k3, k4, k5⟩, f0, f1, f2, f3, f4, f5⟩ := KC)
    have GB : Below wr.heap.size wr w2 := (below_alloc wr _).trans ⟨G2.os, G2.tape, G2.output, by have := G2.size; simpa using this, fun i hi => G2.block i (by simp; omega) (fun e => by simp [Value.ownBlock] at e)⟩
    have KC2 := (HC0.out.kept (G2.block _ (by simp) (fun e => by simp [Value.ownBlock] at e))).set5 (.slice ao2 t.m cp2)
    rw [Nat.zero_add, List.nil_append] at O2
    rw [Nat.zero_add] at B2
    have hob : ∀ q, (Value.slice ao2 t.m cp2).ownBlock = some q → q = wr.heap.size + 1 := fun q hq => by
      rcases B2 with e | e
      · rw [hq] at e; simp [Value.ownBlock] at e
      · rw [hq] at e; simpa using e
    obtain ⟨w3, hw3⟩ : ∃ w3, w3 = w2.setCell ⟨wr.heap.size, 5, none⟩ (.slice ao2 t.m cp2) := ⟨_, rfl⟩
    rw [← hw3] at KC2
    rw [← hw3]
    have hcb : ∀ q, (Value.slice ao2 t.m cp2).ownBlock = some q → q ≠ wr.heap.size := fun q hq => by have := hob q hq; omega
    have B3 : Below wr.heap.size wr w3 := by rw [hw3]; exact GB.setCell (Nat.le_refl _) _
    have HE3 : Hid (WrkI w1 nw nx bd n g k T Y v w3) := HE.out.later B3
    have O3 : OwnM w3 (w1.heap.size + 1) 116 3 (.slice ao2 t.m cp2) t.m (nums t.L (t.m * 3)) := by rw [hw3]; exact O2.set hcb 5 _
    have hsz3 : wr.heap.size + 1 < w3.heap.size := by
      have hb3 := O3.block
      obtain ⟨q, hq⟩ : ∃ q, (Value.slice ao2 t.m cp2).ownBlock = some q := by
        rcases O3.2 with ⟨_, e⟩ | ⟨g', cap', cur', e, _⟩
        · omega
        · rw [e]; exact ⟨g', rfl⟩
      have := hob q hq
      have := (hb3 q hq).2
      omega
    have HIT3 : Hid (Row w3 (w1.heap.size + 1) 3 t.m t.L (.slice ao2 t.m cp2) ∧ CapOk (.slice ao2 t.m cp2) ∧ ∀ q, (Value.slice ao2 t.m cp2).ownBlock = some q → v.ownBlock ≠ some q ∧ q < w3.heap.size) := by
      refine ⟨?_, fun _ _ _ e => by cases e; exact O3.cap, fun q hq => ⟨fun e => by have := (HE.out.txs.own.lt q e).2; have := hob q hq; omega, (O3.block q hq).2⟩⟩
      have := (O3.own (nums_length _ _)).row.1
      obtain ⟨ao, cp, e, hr⟩ := this
      refine ⟨ao, cp, e, fun h0 => ?_⟩
      obtain ⟨g', o', e1, e2, e3, e4⟩ := hr h0
      exact ⟨g', o', e1, e2, e3, fun p hp => by rw [e4 p hp]; simp [nums, hp]⟩
    have HFA : Hid (Free w3 (t.m * 3) (.slice ao2 t.m cp2) ∧ ∀ i, i < k → 0 < (T i).m → ∀ q, (Y i).ownBlock = some q → (Value.slice ao2 t.m cp2).ownBlock ≠ some q) := ⟨(O3.own (nums_length _ _)).row.2, fun i hi h0 q hq e => by have := ((HE.out.txs.items i hi).2.2 h0 q hq).2; have := hob q e; omega⟩
    have HVC : Hid (∀ q, v.ownBlock = some q → q < wr.heap.size ∧ w1.heap.size + 1 ≤ q) := fun q hq => ⟨(HE.out.txs.own.lt q hq).2, (HE.out.txs.own.lt q hq).1⟩
    have HKC : Hid (Blk6 w3 wr.heap.size (.int .i64 t.s) (.int .i64 t.c) (.int .i64 t.u) (.int .i64 t.st) (.int .i64 t.a) (.slice ao2 t.m cp2)) := KC2
    clear KC2 O2 G2 B2 GB hob O3 hcb B3 HE k0 k1 k2 k3 k4 k5 f0 f1 f2 f3 f4 f5 hw3 HC0 HR x0 x1 x2 x3 x4 x5
    have BX : Hid (Below w3.heap.size w3 (w3.drew.alloc (.cells #[.int .i64 t.s, .int .i64 t.c, .int .i64 t.u, .int .i64 t.st, .int .i64 t.a, .slice ao2 t.m cp2] 113))) := (Below.drew (Below.refl _ _)).trans ((below_alloc _ _).mono (Nat.le_refl _))
    obtain ⟨g4, cap4, w4, hrun, hown4, hg4, hor, hlt4⟩ := run_append_lies (P := Tryz.prog) (w3.drew.alloc (.cells #[.int .i64 t.s, .int .i64 t.c, .int .i64 t.u, .int .i64 t.st, .int .i64 t.a, .slice ao2 t.m cp2] 113)) 43 43 (w1.heap.size + 1) 113 i1 (.agg #[.int .i64 0, .int .i64 0, .int .i64 0, .int .i64 0, .int .i64 0, .slice none 0 0]) 6 64 Tryz.underlying43 hi1 jz0 jz1 jz2 rfl (by omega) v k (tvals T Y k) (HE3.out.txs.later BX.out).own ⟨w3.heap.size, 0, none⟩ 1 1 [.int .i64 t.s, .int .i64 t.c, .int .i64 t.u, .int .i64 t.st, .int .i64 t.a, .slice ao2 t.m cp2] rfl (fun j u hj => by rw [Addr.add_lit, Nat.zero_add, World.cell?_alloc_at (w := w3.drew) _ _ w3.heap.size j rfl]; simpa using hj) (by intro u hu; simp only [List.mem_cons, List.not_mem_nil, or_false] at hu; rcases hu with rfl | rfl | rfl | rfl | rfl | rfl <;> rfl) (by omega) (by unfold maxLen; omega) (by omega) (by simp; omega) (w3.heap.size + 1) (by simp)
    have HRUN : Hid (∀ ty, (Builtin.append_ #[43, 43] ty #[v, .slice (some ⟨w3.heap.size, 0, none⟩) 1 1]).run Tryz.prog (w3.drew.alloc (.cells #[.int .i64 t.s, .int .i64 t.c, .int .i64 t.u, .int .i64 t.st, .int .i64 t.a, .slice ao2 t.m cp2] 113)) = .ok (.slice (some ⟨g4, 0, none⟩) (k + 1) cap4) w4) := fun ty => hrun
    have HW4 : Hid (WrkT w4 (w1.heap.size + 1) (k + 1) T (fun i => if i = k then .slice ao2 t.m cp2 else Y i) (.slice (some ⟨g4, 0, none⟩) (k + 1) cap4)) := by
      refine (HE3.out.txs.later BX.out).put ⟨by rw [HT.out]; exact HIT3.out.1.later BX.out, HIT3.out.2.1⟩ (fun _ q hq => ⟨(HIT3.out.2.2 q hq).1, Nat.lt_of_lt_of_le (HIT3.out.2.2 q hq).2 BX.out.size⟩) (by rw [HT.out]; exact HFA.out.1.ofRow HIT3.out.1 BX.out) (fun i hi h0 _ q hq => HFA.out.2 i hi h0 q hq) (by rw [HT.out]; exact hown4) hg4 (fun q hq => ?_)
      have e : g4 = q := by simpa [Value.ownBlock] using hq
      rcases hor with e1 | e1
      · exact Or.inl (by rw [e1, e])
      · exact Or.inr (by rw [← e, e1]; simp)
    have HK4 : Hid (Blk5w w4 w1.heap.size (.int .i64 nw) (.int .i64 nx) (.int .i64 bd) (.slice (some ⟨g, 0, none⟩) n n) v) := (HE3.out.kb.later BX.out).kept (hg4.block _ (by have := BX.out.size; omega) (fun e => by have := (HVC.out _ e.symm).2; omega))
    have HB4 : Hid (Below w1.heap.size w1 w4) := (HE3.out.back.trans (BX.out.mono HE3.out.back.size)).grown hg4 (by have := BX.out.size; omega) (fun r e => by have := (HVC.out r e).2; omega)
    have HKX : Hid (Blk6 (w3.drew.alloc (.cells #[.int .i64 t.s, .int .i64 t.c, .int .i64 t.u, .int .i64 t.st, .int .i64 t.a, .slice ao2 t.m cp2] 113)) wr.heap.size (.int .i64 t.s) (.int .i64 t.c) (.int .i64 t.u) (.int .i64 t.st) (.int .i64 t.a) (.slice ao2 t.m cp2)) := HKC.out.later BX.out
    have HKC4 : Hid (Blk6 w4 wr.heap.size (.int .i64 t.s) (.int .i64 t.c) (.int .i64 t.u) (.int .i64 t.st) (.int .i64 t.a) (.slice ao2 t.m cp2)) := HKX.out.kept (hg4.block _ (by have := BX.out.size; omega) (fun e => by have := (HVC.out _ e.symm).1; omega))
    have vform : ∃ va vc, v = .slice va k vc := by
      rcases HE3.out.txs.own.2 with ⟨e, e0⟩ | ⟨g', cap', cur', e, _⟩
      · exact ⟨none, 0, by rw [e, e0]⟩
      · exact ⟨_, _, e⟩
    obtain ⟨va, vc, rfl⟩ := vform
    obtain ⟨⟨b0, b1, b2, b3, b4⟩, _⟩ := HE3.out.kb
    have hl13 : w1.heap.size < w3.heap.size := by omega
    have hS0 : (fun X : World => Blk6 X wr.heap.size (.int .i64 t.s) (.int .i64 t.c) (.int .i64 t.u) (.int .i64 t.st) (.int .i64 t.a) (.slice ao2 t.m cp2)) w3.drew := HKC.out
    clear hown4 hg4 hor hlt4 hrun BX HIT3 HE3 HKC HFA
    go_upto_region 6 with fail
    refine wp_region_held_drew (S := (fun X : World => Blk6 X wr.heap.size (.int .i64 t.s) (.int .i64 t.c) (.int .i64 t.u) (.int .i64 t.st) (.int .i64 t.a) (.slice ao2 t.m cp2))) (by kernel_rfl) hS0 (fun hS => ?_)
    clear hS0
    refine tkH 0 ?_ hS (fun wx hx => ?_) ?_; rotate_left
    · obtain ⟨⟨hx0, hx1, hx2, hx3, hx4, hx5⟩, _⟩ := hx; go_simp; try with_reducible rfl
    refine tkH 1 ?_ hS (fun wx hx => ?_) ?_; rotate_left
    · obtain ⟨⟨hx0, hx1, hx2, hx3, hx4, hx5⟩, _⟩ := hx; go_simp; try with_reducible rfl
    refine tkH 2 ?_ hS (fun wx hx => ?_) ?_; rotate_left
    · obtain ⟨⟨hx0, hx1, hx2, hx3, hx4, hx5⟩, _⟩ := hx; go_simp; try with_reducible rfl
    refine tkH 3 ?_ hS (fun wx hx => ?_) ?_; rotate_left
    · obtain ⟨⟨hx0, hx1, hx2, hx3, hx4, hx5⟩, _⟩ := hx; go_simp; try with_reducible rfl
    refine tkH 5 ?_ hS (fun wx hx => ?_) ?_; rotate_left
    · obtain ⟨⟨hx0, hx1, hx2, hx3, hx4, hx5⟩, _⟩ := hx; go_simp; try with_reducible rfl
    refine wpAnyH_ready (rs := [4, 6]) (by kernel_rfl) (by simp) ?_
    refine AllReadyH.cons rfl (fun K hK => ?_) (AllReadyH.cons rfl (fun K hK => ?_) AllReadyH.nil)
    focus
      go_simp
      refine hK.out _ _ hS (fun hS => ?_)
      clear hK K
      refine rdH 6 (fun K hK => ?_)
      go_simp
      refine hK.out _ _ HKX.out (fun hS => ?_)
    rotate_left
    focus
      go_simp
      refine hK.out _ _ HKX.out (fun hS => ?_)
      clear hK K
      refine rdH 4 (fun K hK => ?_)
      go_simp
      refine hK.out _ _ hS (fun hS => ?_)
    rotate_left
    all_goals
      clear hK K
      clear b0 b1 b2 b3 b4
      refine rdH 7 (fun K hK => ?_)
      refine step_appInM rfl _ _ 43 43 rfl _ _ (by simp [Act.eval]) (by simp [Act.eval]) (HRUN.out _) ?_
      refine hK.out _ _ HKC4.out (fun hS => ?_)
      clear hK K
      refine tkH 8 ?_ hS (fun wx hx => ?_) ?_; rotate_left
      · obtain ⟨⟨hx0, hx1, hx2, hx3, hx4, hx5⟩, _⟩ := hx; go_simp; try with_reducible rfl
      refine tkH 9 ?_ hS (fun wx hx => ?_) ?_; rotate_left
      · obtain ⟨⟨hx0, hx1, hx2, hx3, hx4, hx5⟩, _⟩ := hx; go_simp; try with_reducible rfl
      refine rdH 10 (fun K hK => ?_)
      obtain ⟨⟨z0, z1, z2, z3, z4⟩, zf⟩ := HK4.out
      have zf4 := zf 4
      go_simp
      refine hK.out _ _ (hS.kept (Below.heap_setCell _ ⟨w1.heap.size, 4, none⟩ _ _ (by simp; omega))) (fun hS => ?_)
      clear hK K z0 z1 z2 z3 z4 zf zf4
      refine wpAnyH_done (by kernel_rfl) ?_ _
      go_simp
      go_wp2
      go_roundw
      case rel => exact ⟨k + 1, _, _, by omega, by go_num, HB4.out.setCell (Nat.le_refl _) _, HK4.out.set4 _, HW4.out.far (by simp) _⟩
      case measure => simp [intOf]; omega
end Go.Proofs.YtjkchhcnochjlaaGreatDoor

namespace Go.Proofs.YtjkchhcnochjlaaGreatDoor
open Go.RowKit

/-- Whether a transaction is done, and when. -/
def DoneAt (n : Nat) (F : Nat → Int) (S : Nat → Sto) (t : Tx) (r : Option Int) : Prop := ∃ j, AtR n F (t.L 0) j ∧ ((∃ i, doneW (S j).k (S j).nw (t.L 0) t.s i ∧ r = some ((S j).k (i * 4 + 1))) ∨ ((∀ i, ¬ doneW (S j).k (S j).nw (t.L 0) t.s i) ∧ r = none))
/-- What of the first k was done. -/
def donesL (R : Nat → Option Int) : Nat → Prs
  | 0 => []
  | k + 1 => match R k with
    | some c => putD (donesL R k) (k, c)
    | none => donesL R k
theorem donesL_lt (R : Nat → Option Int) : ∀ (k : Nat) (e : Int × Int), e ∈ donesL R k → e.1 < k
  | 0, e, h => absurd h (by simp [donesL])
  | k + 1, e, h => by
    rw [donesL] at h
    split at h
    · rcases putD_mem h with rfl | q
      · show (k : Int) < _; omega
      · have := donesL_lt R k e q; omega
    · have := donesL_lt R k e h; omega
theorem donesL_len (R : Nat → Option Int) : ∀ k, (donesL R k).length ≤ k
  | 0 => by simp [donesL]
  | k + 1 => by
    have := donesL_len R k
    rw [donesL]
    split
    · rw [putD_length]; omega
    · omega
theorem donesL_rises (R : Nat → Option Int) : ∀ k, RisesD (donesL R k)
  | 0 => List.Pairwise.nil
  | k + 1 => by
    rw [donesL]
    split
    · exact putD_rises (donesL_rises R k) (fun e he => by have := donesL_lt R k e he; show e.1 ≠ (k : Int); omega)
    · exact donesL_rises R k
set_option maxRecDepth 100000 in
set_option maxHeartbeats 1000000 in
theorem filledD_nil (w : World) : Calls Tryz.prog 98 #[(.func (.func 99) #[] #[]), .slice none 0 0] w fun e w' => e = .returned (.pointer (some ⟨w.heap.size, 0, none⟩)) ∧ RisD w' w.heap.size [] ∧ Below w.heap.size w w' := by
  have HR : Hid (RisD (w.alloc (.cells #[.slice none 0 0, (.func (.func 99) #[] #[])] 184)) w.heap.size []) := ⟨_, Blk2.new w _ _ _, Own.nil _ _ _ _ _⟩
  go_enter Tryz.func98, Tryz.ntmps98
  go_wp2
  go_loopw [13] (fun i wr => i = .int .i64 0 ∧ wr = w.alloc (.cells #[.slice none 0 0, (.func (.func 99) #[] #[])] 184)) (fun _ _ => 0)
  case atStart => exact ⟨rfl, rfl⟩
  case round =>
    obtain ⟨rfl, rfl⟩ := hrel
    go_wp2
    go_ret
    exact ⟨rfl, HR.out, below_alloc _ _⟩
/-- What stands while dones looks: the work in block b, the list in block d. -/
structure DonE (x0 : World) (b : Nat) (nw nx bd : Int) (n : Nat) (F : Nat → Int) (S : Nat → Sto) (g : Nat) (P : Nat → Nat) (Bw : Nat) (nt : Nat) (T : Nat → Tx) (Y : Nat → Value) (v : Value) (x : World) : Prop where
  below : Below x0.heap.size x0 x
  kb : Blk5w x b (.int .i64 nw) (.int .i64 nx) (.int .i64 bd) (.slice (some ⟨g, 0, none⟩) n n) v
  work : Work x Bw n F S (some ⟨g, 0, none⟩) P
  txs : Txs x 0 nt T Y v
theorem DonE.later {x0 : World} {b : Nat} {nw nx bd : Int} {n : Nat} {F : Nat → Int} {S : Nat → Sto} {g : Nat} {P : Nat → Nat} {Bw nt : Nat} {T : Nat → Tx} {Y : Nat → Value} {v : Value} {x x' : World} (h : DonE x0 b nw nx bd n F S g P Bw nt T Y v x) (hb : Below x.heap.size x x') : DonE x0 b nw nx bd n F S g P Bw nt T Y v x' :=
  ⟨h.below.trans (hb.mono h.below.size), h.kb.later hb, h.work.later hb, h.txs.later hb⟩
theorem firstW_one {k : Nat → Int} {n : Nat} {key start : Int} {i j : Nat} (h : firstW k n key start i) (h' : firstW k n key start j) : i = j := by
  rcases Nat.lt_trichotomy i j with q | q | q
  · exact absurd h.2.1 (h'.2.2 i q)
  · exact q
  · exact absurd h'.2.1 (h.2.2 j q)
theorem doneT {k : Nat → Int} {nw : Nat} {key start : Int} {u : Value} {r : Option Int} (hT : Told (doneW k nw key start) k u) (hD : (∃ i, doneW k nw key start i ∧ r = some (k (i * 4 + 1))) ∨ ((∀ i, ¬ doneW k nw key start i) ∧ r = none)) :
    ∃ (a0 a1 a2 a3 : Int) (s : Bool), u = .tuple #[.agg #[.int .i64 a0, .int .i64 a1, .int .i64 a2, .int .i64 a3], .bool s] ∧ ((s = true ∧ r = some a1) ∨ (s = false ∧ r = none)) := by
  rcases hT with ⟨i, hi, rfl⟩ | ⟨hno, rfl⟩
  · rcases hD with ⟨j, hj, rfl⟩ | ⟨hno, _⟩
    · obtain rfl := firstW_one hi.1 hj.1
      exact ⟨_, _, _, _, true, rfl, Or.inl ⟨rfl, rfl⟩⟩
    · exact absurd hi (hno i)
  · rcases hD with ⟨j, hj, _⟩ | ⟨_, rfl⟩
    · exact absurd hj (hno j)
    · exact ⟨0, 0, 0, 0, false, rfl, Or.inr ⟨rfl, rfl⟩⟩
theorem sE_later {x0 : World} {c : Nat} {t : Tx} {y : Value} {L : Prs} {x x' : World} (h : (Below x0.heap.size x0 x) ∧ Blk6 x c (.int .i64 t.s) (.int .i64 t.c) (.int .i64 t.u) (.int .i64 t.st) (.int .i64 t.a) y ∧ RisD x x0.heap.size L) (hb : Below x.heap.size x x') : (Below x0.heap.size x0 x') ∧ Blk6 x' c (.int .i64 t.s) (.int .i64 t.c) (.int .i64 t.u) (.int .i64 t.st) (.int .i64 t.a) y ∧ RisD x' x0.heap.size L :=
  ⟨h.1.trans (hb.mono h.1.size), h.2.1.later hb, h.2.2.later hb⟩
theorem Blk4.putD {x : World} {b : Nat} {a0 a1 a2 a3 : Value} (h : Blk4 x b a0 a1 a2 a3) (c0 c1 c2 c3 : Value) : Blk4 ((((x.setCell ⟨b, 0, none⟩ c0).setCell ⟨b, 1, none⟩ c1).setCell ⟨b, 2, none⟩ c2).setCell ⟨b, 3, none⟩ c3) b c0 c1 c2 c3 := by
  obtain ⟨⟨h0, h1, h2, h3⟩, f0, f1, f2, f3⟩ := h
  refine ⟨⟨?_, ?_, ?_, ?_⟩, ?_, ?_, ?_, ?_⟩ <;> go_simp
set_option maxRecDepth 100000 in
set_option maxHeartbeats 8000000 in
theorem dones_is (x0 : World) (b : Nat) (nw nx bd : Int) (n : Nat) (F : Nat → Int) (S : Nat → Sto) (g : Nat) (P : Nat → Nat) (Bw nt : Nat) (T : Nat → Tx) (Y : Nat → Value) (v : Value) (R : Nat → Option Int) (h : DonE x0 b nw nx bd n F S g P Bw nt T Y v x0) (hR : ∀ i, i < nt → DoneAt n F S (T i) (R i)) (hn : n ≤ 12) (hnt : nt ≤ 16) (hit : ∀ i, i < nt → 1 ≤ (T i).m) :
    Calls Tryz.prog 97 #[.pointer (some ⟨b, 0, none⟩)] x0 fun e x' => ∃ ao cp, e = .returned (.slice ao (donesL R nt).length cp) ∧ Own x' x0.heap.size 61 2 (donesL R nt).length (rowL (donesL R nt)) (.slice ao (donesL R nt).length cp) ∧ Below x0.heap.size x0 x' := by
  obtain ⟨va, vc, rfl⟩ := h.txs.form
  have H0 : Hid (DonE x0 b nw nx bd n F S g P Bw nt T Y (.slice va nt vc) x0) := h
  have HRR : Hid ((∀ i, i < nt → DoneAt n F S (T i) (R i)) ∧ ∀ i, i < nt → 1 ≤ (T i).m) := ⟨hR, hit⟩
  clear h hR hit
  go_enter Tryz.func97, Tryz.ntmps97
  go_wp2_with fail
  refine (filledD_nil _).mono ?_
  rintro e w1 ⟨rfl, r1, q1⟩
  have H1 : Hid ((Below x0.heap.size x0 w1) ∧ RisD w1 x0.heap.size (donesL R 0)) := ⟨q1, r1⟩
  clear r1 q1
  obtain ⟨⟨p0, p1, p2, p3, p4⟩, _⟩ := H0.out.kb.later H1.out.1
  go_wp2
  clear p0 p1 p2 p3 p4
  go_loopw [15] (fun i wr => ∃ k : Nat, k ≤ nt ∧ i = .int .i64 k ∧ Hid ((Below x0.heap.size x0 wr) ∧ RisD wr x0.heap.size (donesL R k))) (fun i _ => nt - (intOf i).toNat)
  case atStart => exact ⟨0, Nat.zero_le _, rfl, H1⟩
  case round =>
    clear H1
    obtain ⟨k, hk, rfl, HB⟩ := hrel
    by_cases hlt : k < nt
    case neg =>
      obtain rfl : k = nt := by omega
      obtain ⟨rv, hb1, ho1⟩ := HB.out.2
      obtain ⟨ro, rc, rfl⟩ := ho1.form
      have HO : Hid (Own wr (x0.heap.size + 1) 61 2 (donesL R k).length (rowL (donesL R k)) (.slice ro (donesL R k).length rc)) := ho1
      obtain ⟨⟨z0, z1⟩, _, _⟩ := hb1
      clear ho1
      obtain ⟨LN, hLN⟩ : ∃ LN, (donesL R k).length = LN := ⟨_, rfl⟩
      have HLN : Hid ((donesL R k).length = LN) := hLN
      rw [hLN] at z0
      clear hLN
      go_wp2
      refine bodyPost_ret (v := .slice ro LN rc) (by simp [results, Tryz.results97, go_sem]) rfl ?_
      rw [← HLN.out]
      exact ⟨ro, rc, rfl, HO.out.mono (by omega), HB.out.1⟩
    obtain ⟨gx, ox, hax, _, hgx, ⟨c0, c1, c2, c3, c4, c5⟩, hrow, _⟩ := (H0.out.txs.later HB.out.1).at hlt
    subst hax
    obtain ⟨t, ht⟩ : ∃ t, T k = t := ⟨_, rfl⟩
    have hm1 := HRR.out.2 k hlt
    have hDk := HRR.out.1 k hlt
    rw [ht] at c0 c1 c2 c3 c4 hrow hm1 hDk
    obtain ⟨y, hy⟩ : ∃ y, Y k = y := ⟨_, rfl⟩
    rw [hy] at c5 hrow
    clear ht hy
    obtain ⟨yo, yc, rfl⟩ := hrow.form
    obtain ⟨gy, oy, hyo, _, hgy, k0, k1, k2⟩ := hrow.at3 (k := 0) (by omega)
    subst hyo
    simp only [Nat.zero_mul, Nat.add_zero] at k0 k1 k2
    obtain ⟨key, hkey⟩ : ∃ x, t.L 0 = x := ⟨_, rfl⟩
    rw [hkey] at k0
    obtain ⟨j, hj, hD⟩ := hDk
    rw [hkey] at hj hD
    have HJ : Hid (AtR n F key j) := hj
    have HD : Hid ((∃ i, doneW (S j).k (S j).nw key t.s i ∧ R k = some ((S j).k (i * 4 + 1))) ∨ ((∀ i, ¬ doneW (S j).k (S j).nw key t.s i) ∧ R k = none)) := hD
    have hS0 : (fun X : World => (Below x0.heap.size x0 X) ∧ Blk6 X wr.heap.size (.int .i64 t.s) (.int .i64 t.c) (.int .i64 t.u) (.int .i64 t.st) (.int .i64 t.a) (.slice (some ⟨gy, oy, none⟩) t.m yc) ∧ RisD X x0.heap.size (donesL R k)) (wr.alloc (.cells #[.int .i64 t.s, .int .i64 t.c, .int .i64 t.u, .int .i64 t.st, .int .i64 t.a, .slice (some ⟨gy, oy, none⟩) t.m yc] 113)).drew := ⟨(HB.out.1.alloc HB.out.1.size _).drew, Blk6.new wr _ _ _ _ _ _ _, HB.out.2.later (below_alloc _ _).drew⟩
    clear hrow hj hD hkey
    go_upto_region 6 with fail
    refine wp_region_held_drew (S := (fun X : World => (Below x0.heap.size x0 X) ∧ Blk6 X wr.heap.size (.int .i64 t.s) (.int .i64 t.c) (.int .i64 t.u) (.int .i64 t.st) (.int .i64 t.a) (.slice (some ⟨gy, oy, none⟩) t.m yc) ∧ RisD X x0.heap.size (donesL R k))) (by kernel_rfl) hS0 (fun hS => ?_)
    generalize (wr.alloc (.cells #[.int .i64 t.s, .int .i64 t.c, .int .i64 t.u, .int .i64 t.st, .int .i64 t.a, .slice (some ⟨gy, oy, none⟩) t.m yc] 113)).drew = wa at hS ⊢
    clear hS0 c0 c1 c2 c3 c4 c5 k0 k1 k2
    refine tkH 0 ?_ hS (fun wx hx => ?_) ?_; rotate_left
    · obtain ⟨⟨hx0, hx1, hx2, hx3, hx4⟩, _⟩ := H0.out.kb.later hx.1; obtain ⟨⟨hy0, hy1, hy2, hy3, hy4, hy5⟩, _⟩ := hx.2.1; go_simp; try with_reducible rfl
    refine tkH 1 ?_ hS (fun wx hx => ?_) ?_; rotate_left
    · obtain ⟨⟨hx0, hx1, hx2, hx3, hx4⟩, _⟩ := H0.out.kb.later hx.1; obtain ⟨⟨hy0, hy1, hy2, hy3, hy4, hy5⟩, _⟩ := hx.2.1; go_simp; try with_reducible rfl
    refine tkH 2 ?_ hS (fun wx hx => ?_) ?_; rotate_left
    · obtain ⟨⟨hx0, hx1, hx2, hx3, hx4⟩, _⟩ := H0.out.kb.later hx.1; obtain ⟨⟨hy0, hy1, hy2, hy3, hy4, hy5⟩, _⟩ := hx.2.1; go_simp; try with_reducible rfl
    try simp only [Act.put, List.getElem_toArray, List.getElem_cons_zero, List.getElem_cons_succ, List.setIfInBounds_toArray, List.set_cons_succ, List.set_cons_zero]
    refine tkH 3 ?_ hS (fun wx hx => ?_) ?_; rotate_left
    · obtain ⟨⟨hx0, hx1, hx2, hx3, hx4⟩, _⟩ := H0.out.kb.later hx.1; obtain ⟨⟨hy0, hy1, hy2, hy3, hy4, hy5⟩, _⟩ := hx.2.1; go_simp; try with_reducible rfl
    refine tkH 4 ?_ hS (fun wx hx => ?_) ?_; rotate_left
    · obtain ⟨⟨hx0, hx1, hx2, hx3, hx4⟩, _⟩ := H0.out.kb.later hx.1; obtain ⟨⟨hy0, hy1, hy2, hy3, hy4, hy5⟩, _⟩ := hx.2.1; go_simp; try with_reducible rfl
    refine tkH 8 ?_ hS (fun wx hx => ?_) ?_; rotate_left
    · obtain ⟨⟨hx0, hx1, hx2, hx3, hx4⟩, _⟩ := H0.out.kb.later hx.1; obtain ⟨⟨hy0, hy1, hy2, hy3, hy4, hy5⟩, _⟩ := hx.2.1; go_simp; try with_reducible rfl
    try simp only [Act.put, List.getElem_toArray, List.getElem_cons_zero, List.getElem_cons_succ, List.setIfInBounds_toArray, List.set_cons_succ, List.set_cons_zero]
    refine tkH 9 ?_ hS (fun wx hx => ?_) ?_; rotate_left
    · obtain ⟨⟨hx0, hx1, hx2, hx3, hx4⟩, _⟩ := H0.out.kb.later hx.1; obtain ⟨⟨hy0, hy1, hy2, hy3, hy4, hy5⟩, _⟩ := hx.2.1; go_simp; try with_reducible rfl
    refine tkH 10 ?_ hS (fun wx hx => ?_) ?_; rotate_left
    · obtain ⟨⟨hx0, hx1, hx2, hx3, hx4⟩, _⟩ := H0.out.kb.later hx.1; obtain ⟨⟨hy0, hy1, hy2, hy3, hy4, hy5⟩, _⟩ := hx.2.1; go_simp; try with_reducible rfl
    try simp only [Act.put, List.getElem_toArray, List.getElem_cons_zero, List.getElem_cons_succ, List.setIfInBounds_toArray, List.set_cons_succ, List.set_cons_zero]
    refine wpAnyH_ready (rs := [5, 15]) (by kernel_rfl) (by simp) ?_
    refine AllReadyH.cons rfl (fun K hK => ?_) (AllReadyH.cons rfl (fun K hK => ?_) AllReadyH.nil)
    focus
      go_simp
      go_wp2_with fail
      refine (storeOf_is key Bw n F S _ n P j _ (H0.out.work.later hS.1) HJ.out hn).mono ?_
      rintro e w5 ⟨rfl, q5⟩
      have hS5 := sE_later hS q5
      go_wp2_with fail
      refine hK.out _ _ hS5 (fun hS => ?_)
      clear hK K hS5
      refine tkH 6 ?_ hS (fun wx hx => ?_) ?_; rotate_left
      · obtain ⟨⟨hx0, hx1, hx2, hx3, hx4⟩, _⟩ := H0.out.kb.later hx.1; obtain ⟨⟨hy0, hy1, hy2, hy3, hy4, hy5⟩, _⟩ := hx.2.1; go_simp; try with_reducible rfl
      refine tkH 7 ?_ hS (fun wx hx => ?_) ?_; rotate_left
      · obtain ⟨⟨hx0, hx1, hx2, hx3, hx4⟩, _⟩ := H0.out.kb.later hx.1; obtain ⟨⟨hy0, hy1, hy2, hy3, hy4, hy5⟩, _⟩ := hx.2.1; go_simp; try with_reducible rfl
      try simp only [Act.put, List.getElem_toArray, List.getElem_cons_zero, List.getElem_cons_succ, List.setIfInBounds_toArray, List.set_cons_succ, List.set_cons_zero]
      refine wpAnyH_ready (rs := [11, 15]) (by kernel_rfl) (by simp) ?_
      refine AllReadyH.cons rfl (fun K hK => ?_) (AllReadyH.cons rfl (fun K hK => ?_) AllReadyH.nil)
      focus
        go_simp
        go_wp2_with fail
        obtain ⟨N, mm, gm, u1, u2, hNl, _, hRS⟩ := (H0.out.work.later hS.1).2 j HJ.out.1
        refine (doneOf_anyO _ (P j) 3 N mm _ _ _ _ gm u1 u2 key t.s _ hRS.2.1 hNl.2.2).mono ?_
        rintro e w6 ⟨u, rfl, hTold, q6⟩
        obtain ⟨a0, a1, a2, a3, sb, rfl, hsb⟩ := doneT hTold HD.out
        have HSB : Hid ((sb = true ∧ R k = some a1) ∨ (sb = false ∧ R k = none)) := hsb
        have hS6 := sE_later hS q6
        clear hTold hsb hRS hNl
        go_wp2_with fail
        refine hK.out _ _ hS6 (fun hS => ?_)
        clear hK K hS6 q6 q5
        refine tkH 12 ?_ hS (fun wx hx => ?_) ?_; rotate_left
        · obtain ⟨⟨hx0, hx1, hx2, hx3, hx4⟩, _⟩ := H0.out.kb.later hx.1; obtain ⟨⟨hy0, hy1, hy2, hy3, hy4, hy5⟩, _⟩ := hx.2.1; go_simp; try with_reducible rfl
        refine tkH 13 ?_ hS (fun wx hx => ?_) ?_; rotate_left
        · obtain ⟨⟨hx0, hx1, hx2, hx3, hx4⟩, _⟩ := H0.out.kb.later hx.1; obtain ⟨⟨hy0, hy1, hy2, hy3, hy4, hy5⟩, _⟩ := hx.2.1; go_simp; try with_reducible rfl
        refine tkH 14 ?_ hS (fun wx hx => ?_) ?_; rotate_left
        · obtain ⟨⟨hx0, hx1, hx2, hx3, hx4⟩, _⟩ := H0.out.kb.later hx.1; obtain ⟨⟨hy0, hy1, hy2, hy3, hy4, hy5⟩, _⟩ := hx.2.1; go_simp; try with_reducible rfl
        try simp only [Act.put, List.getElem_toArray, List.getElem_cons_zero, List.getElem_cons_succ, List.setIfInBounds_toArray, List.set_cons_succ, List.set_cons_zero]
        refine rdH 15 (fun K hK => ?_)
        go_simp
        have HQ : Hid (Blk4 (w6.alloc (.cells #[.int .i64 0, .int .i64 0, .int .i64 0, .int .i64 0] 121)) w6.heap.size (.int .i64 0) (.int .i64 0) (.int .i64 0) (.int .i64 0) ∧ Below w6.heap.size w6 (w6.alloc (.cells #[.int .i64 0, .int .i64 0, .int .i64 0, .int .i64 0] 121))) := ⟨Blk4.new _ _ _ _ _ _, below_alloc _ _⟩
        have HSA : Hid ((Below x0.heap.size x0 w6) ∧ Blk6 w6 wr.heap.size (.int .i64 t.s) (.int .i64 t.c) (.int .i64 t.u) (.int .i64 t.st) (.int .i64 t.a) (.slice (some ⟨gy, oy, none⟩) t.m yc) ∧ RisD w6 x0.heap.size (donesL R k)) := hS
        refine hK.out _ _ (sE_later hS (below_alloc _ _)) (fun hS => ?_)
        clear hK K
        refine rdH 16 (fun K hK => ?_)
        obtain ⟨⟨z0, z1, z2, z3⟩, zf⟩ := HQ.out.1
        have hqlt : w6.heap.size < (w6.alloc (.cells #[.int .i64 0, .int .i64 0, .int .i64 0, .int .i64 0] 121)).heap.size := HQ.out.1.lt
        obtain ⟨f0, f1, f2, f3⟩ := zf
        have HQ2 : Hid (Blk4 (w6.alloc (.cells #[.int .i64 a0, .int .i64 a1, .int .i64 a2, .int .i64 a3] 121)) w6.heap.size (.int .i64 a0) (.int .i64 a1) (.int .i64 a2) (.int .i64 a3) ∧ Below w6.heap.size w6 (w6.alloc (.cells #[.int .i64 a0, .int .i64 a1, .int .i64 a2, .int .i64 a3] 121))) := ⟨Blk4.new _ _ _ _ _ _, below_alloc _ _⟩
        go_simp
        refine hK.out _ _ (sE_later HSA.out HQ2.out.2) (fun hS => ?_)
        clear hK K z0 z1 z2 z3 f0 f1 f2 f3
        refine tkH 17 ?_ hS (fun wx hx => ?_) ?_; rotate_left
        · obtain ⟨⟨hx0, hx1, hx2, hx3, hx4⟩, _⟩ := H0.out.kb.later hx.1; obtain ⟨⟨hy0, hy1, hy2, hy3, hy4, hy5⟩, _⟩ := hx.2.1; go_simp; try with_reducible rfl
        refine wpAnyH_done (by kernel_rfl) ?_ _
        go_simp
        generalize (w6.alloc (.cells #[.int .i64 a0, .int .i64 a1, .int .i64 a2, .int .i64 a3] 121)) = wz at HQ2 hS ⊢
      rotate_left
      focus
        go_simp
        have HQ : Hid (Blk4 (w5.alloc (.cells #[.int .i64 0, .int .i64 0, .int .i64 0, .int .i64 0] 121)) w5.heap.size (.int .i64 0) (.int .i64 0) (.int .i64 0) (.int .i64 0) ∧ Below w5.heap.size w5 (w5.alloc (.cells #[.int .i64 0, .int .i64 0, .int .i64 0, .int .i64 0] 121))) := ⟨Blk4.new _ _ _ _ _ _, below_alloc _ _⟩
        have HSA : Hid ((Below x0.heap.size x0 w5) ∧ Blk6 w5 wr.heap.size (.int .i64 t.s) (.int .i64 t.c) (.int .i64 t.u) (.int .i64 t.st) (.int .i64 t.a) (.slice (some ⟨gy, oy, none⟩) t.m yc) ∧ RisD w5 x0.heap.size (donesL R k)) := hS
        refine hK.out _ _ (sE_later hS (below_alloc _ _)) (fun hS => ?_)
        clear hK K
        refine rdH 11 (fun K hK => ?_)
        go_simp
        go_wp2_with fail
        obtain ⟨N, mm, gm, u1, u2, hNl, _, hRS⟩ := (H0.out.work.later hS.1).2 j HJ.out.1
        refine (doneOf_anyO _ (P j) 3 N mm _ _ _ _ gm u1 u2 key t.s _ hRS.2.1 hNl.2.2).mono ?_
        rintro e w6 ⟨u, rfl, hTold, q6⟩
        obtain ⟨a0, a1, a2, a3, sb, rfl, hsb⟩ := doneT hTold HD.out
        have HSB : Hid ((sb = true ∧ R k = some a1) ∨ (sb = false ∧ R k = none)) := hsb
        have hS6 := sE_later hS q6
        clear hTold hsb hRS hNl
        have HQ : Hid (Blk4 w6 w5.heap.size (.int .i64 0) (.int .i64 0) (.int .i64 0) (.int .i64 0) ∧ Below w5.heap.size w5 w6) := ⟨HQ.out.1.later q6, HQ.out.2.trans (q6.mono HQ.out.2.size)⟩
        go_wp2_with fail
        refine hK.out _ _ hS6 (fun hS => ?_)
        clear hK K hS6 q6 q5
        refine tkH 12 ?_ hS (fun wx hx => ?_) ?_; rotate_left
        · obtain ⟨⟨hx0, hx1, hx2, hx3, hx4⟩, _⟩ := H0.out.kb.later hx.1; obtain ⟨⟨hy0, hy1, hy2, hy3, hy4, hy5⟩, _⟩ := hx.2.1; go_simp; try with_reducible rfl
        refine tkH 13 ?_ hS (fun wx hx => ?_) ?_; rotate_left
        · obtain ⟨⟨hx0, hx1, hx2, hx3, hx4⟩, _⟩ := H0.out.kb.later hx.1; obtain ⟨⟨hy0, hy1, hy2, hy3, hy4, hy5⟩, _⟩ := hx.2.1; go_simp; try with_reducible rfl
        refine tkH 14 ?_ hS (fun wx hx => ?_) ?_; rotate_left
        · obtain ⟨⟨hx0, hx1, hx2, hx3, hx4⟩, _⟩ := H0.out.kb.later hx.1; obtain ⟨⟨hy0, hy1, hy2, hy3, hy4, hy5⟩, _⟩ := hx.2.1; go_simp; try with_reducible rfl
        try simp only [Act.put, List.getElem_toArray, List.getElem_cons_zero, List.getElem_cons_succ, List.setIfInBounds_toArray, List.set_cons_succ, List.set_cons_zero]
        refine rdH 16 (fun K hK => ?_)
        obtain ⟨⟨z0, z1, z2, z3⟩, zf⟩ := HQ.out.1
        have hqlt : w5.heap.size < w6.heap.size := HQ.out.1.lt
        obtain ⟨f0, f1, f2, f3⟩ := zf
        have HQ2 : Hid (Blk4 ((((w6.setCell ⟨w5.heap.size, 0, none⟩ (.int .i64 a0)).setCell ⟨w5.heap.size, 1, none⟩ (.int .i64 a1)).setCell ⟨w5.heap.size, 2, none⟩ (.int .i64 a2)).setCell ⟨w5.heap.size, 3, none⟩ (.int .i64 a3)) w5.heap.size (.int .i64 a0) (.int .i64 a1) (.int .i64 a2) (.int .i64 a3) ∧ Below w5.heap.size w5 ((((w6.setCell ⟨w5.heap.size, 0, none⟩ (.int .i64 a0)).setCell ⟨w5.heap.size, 1, none⟩ (.int .i64 a1)).setCell ⟨w5.heap.size, 2, none⟩ (.int .i64 a2)).setCell ⟨w5.heap.size, 3, none⟩ (.int .i64 a3))) := ⟨Blk4.putD HQ.out.1 _ _ _ _, (((HQ.out.2.setCell (Nat.le_refl _) _).setCell (Nat.le_refl _) _).setCell (Nat.le_refl _) _).setCell (Nat.le_refl _) _⟩
        go_simp
        refine hK.out _ _ (sE_later HSA.out HQ2.out.2) (fun hS => ?_)
        clear hK K z0 z1 z2 z3 f0 f1 f2 f3
        refine tkH 17 ?_ hS (fun wx hx => ?_) ?_; rotate_left
        · obtain ⟨⟨hx0, hx1, hx2, hx3, hx4⟩, _⟩ := H0.out.kb.later hx.1; obtain ⟨⟨hy0, hy1, hy2, hy3, hy4, hy5⟩, _⟩ := hx.2.1; go_simp; try with_reducible rfl
        refine wpAnyH_done (by kernel_rfl) ?_ _
        go_simp
        generalize ((((w6.setCell ⟨w5.heap.size, 0, none⟩ (.int .i64 a0)).setCell ⟨w5.heap.size, 1, none⟩ (.int .i64 a1)).setCell ⟨w5.heap.size, 2, none⟩ (.int .i64 a2)).setCell ⟨w5.heap.size, 3, none⟩ (.int .i64 a3)) = wz at HQ2 hS ⊢
      rotate_left
    rotate_left 2
    focus
      go_simp
      have HQ : Hid (Blk4 (wa.alloc (.cells #[.int .i64 0, .int .i64 0, .int .i64 0, .int .i64 0] 121)) wa.heap.size (.int .i64 0) (.int .i64 0) (.int .i64 0) (.int .i64 0) ∧ Below wa.heap.size wa (wa.alloc (.cells #[.int .i64 0, .int .i64 0, .int .i64 0, .int .i64 0] 121))) := ⟨Blk4.new _ _ _ _ _ _, below_alloc _ _⟩
      have HSA : Hid ((Below x0.heap.size x0 wa) ∧ Blk6 wa wr.heap.size (.int .i64 t.s) (.int .i64 t.c) (.int .i64 t.u) (.int .i64 t.st) (.int .i64 t.a) (.slice (some ⟨gy, oy, none⟩) t.m yc) ∧ RisD wa x0.heap.size (donesL R k)) := hS
      refine hK.out _ _ (sE_later hS (below_alloc _ _)) (fun hS => ?_)
      clear hK K
      refine rdH 5 (fun K hK => ?_)
      go_simp
      go_wp2_with fail
      refine (storeOf_is key Bw n F S _ n P j _ (H0.out.work.later hS.1) HJ.out hn).mono ?_
      rintro e w5 ⟨rfl, q5⟩
      have hS5 := sE_later hS q5
      have HQ : Hid (Blk4 w5 wa.heap.size (.int .i64 0) (.int .i64 0) (.int .i64 0) (.int .i64 0) ∧ Below wa.heap.size wa w5) := ⟨HQ.out.1.later q5, HQ.out.2.trans (q5.mono HQ.out.2.size)⟩
      go_wp2_with fail
      refine hK.out _ _ hS5 (fun hS => ?_)
      clear hK K hS5
      refine tkH 6 ?_ hS (fun wx hx => ?_) ?_; rotate_left
      · obtain ⟨⟨hx0, hx1, hx2, hx3, hx4⟩, _⟩ := H0.out.kb.later hx.1; obtain ⟨⟨hy0, hy1, hy2, hy3, hy4, hy5⟩, _⟩ := hx.2.1; go_simp; try with_reducible rfl
      refine tkH 7 ?_ hS (fun wx hx => ?_) ?_; rotate_left
      · obtain ⟨⟨hx0, hx1, hx2, hx3, hx4⟩, _⟩ := H0.out.kb.later hx.1; obtain ⟨⟨hy0, hy1, hy2, hy3, hy4, hy5⟩, _⟩ := hx.2.1; go_simp; try with_reducible rfl
      try simp only [Act.put, List.getElem_toArray, List.getElem_cons_zero, List.getElem_cons_succ, List.setIfInBounds_toArray, List.set_cons_succ, List.set_cons_zero]
      refine rdH 11 (fun K hK => ?_)
      go_simp
      go_wp2_with fail
      obtain ⟨N, mm, gm, u1, u2, hNl, _, hRS⟩ := (H0.out.work.later hS.1).2 j HJ.out.1
      refine (doneOf_anyO _ (P j) 3 N mm _ _ _ _ gm u1 u2 key t.s _ hRS.2.1 hNl.2.2).mono ?_
      rintro e w6 ⟨u, rfl, hTold, q6⟩
      obtain ⟨a0, a1, a2, a3, sb, rfl, hsb⟩ := doneT hTold HD.out
      have HSB : Hid ((sb = true ∧ R k = some a1) ∨ (sb = false ∧ R k = none)) := hsb
      have hS6 := sE_later hS q6
      clear hTold hsb hRS hNl
      have HQ : Hid (Blk4 w6 wa.heap.size (.int .i64 0) (.int .i64 0) (.int .i64 0) (.int .i64 0) ∧ Below wa.heap.size wa w6) := ⟨HQ.out.1.later q6, HQ.out.2.trans (q6.mono HQ.out.2.size)⟩
      go_wp2_with fail
      refine hK.out _ _ hS6 (fun hS => ?_)
      clear hK K hS6 q6 q5
      refine tkH 12 ?_ hS (fun wx hx => ?_) ?_; rotate_left
      · obtain ⟨⟨hx0, hx1, hx2, hx3, hx4⟩, _⟩ := H0.out.kb.later hx.1; obtain ⟨⟨hy0, hy1, hy2, hy3, hy4, hy5⟩, _⟩ := hx.2.1; go_simp; try with_reducible rfl
      refine tkH 13 ?_ hS (fun wx hx => ?_) ?_; rotate_left
      · obtain ⟨⟨hx0, hx1, hx2, hx3, hx4⟩, _⟩ := H0.out.kb.later hx.1; obtain ⟨⟨hy0, hy1, hy2, hy3, hy4, hy5⟩, _⟩ := hx.2.1; go_simp; try with_reducible rfl
      refine tkH 14 ?_ hS (fun wx hx => ?_) ?_; rotate_left
      · obtain ⟨⟨hx0, hx1, hx2, hx3, hx4⟩, _⟩ := H0.out.kb.later hx.1; obtain ⟨⟨hy0, hy1, hy2, hy3, hy4, hy5⟩, _⟩ := hx.2.1; go_simp; try with_reducible rfl
      try simp only [Act.put, List.getElem_toArray, List.getElem_cons_zero, List.getElem_cons_succ, List.setIfInBounds_toArray, List.set_cons_succ, List.set_cons_zero]
      refine rdH 16 (fun K hK => ?_)
      obtain ⟨⟨z0, z1, z2, z3⟩, zf⟩ := HQ.out.1
      have hqlt : wa.heap.size < w6.heap.size := HQ.out.1.lt
      obtain ⟨f0, f1, f2, f3⟩ := zf
      have HQ2 : Hid (Blk4 ((((w6.setCell ⟨wa.heap.size, 0, none⟩ (.int .i64 a0)).setCell ⟨wa.heap.size, 1, none⟩ (.int .i64 a1)).setCell ⟨wa.heap.size, 2, none⟩ (.int .i64 a2)).setCell ⟨wa.heap.size, 3, none⟩ (.int .i64 a3)) wa.heap.size (.int .i64 a0) (.int .i64 a1) (.int .i64 a2) (.int .i64 a3) ∧ Below wa.heap.size wa ((((w6.setCell ⟨wa.heap.size, 0, none⟩ (.int .i64 a0)).setCell ⟨wa.heap.size, 1, none⟩ (.int .i64 a1)).setCell ⟨wa.heap.size, 2, none⟩ (.int .i64 a2)).setCell ⟨wa.heap.size, 3, none⟩ (.int .i64 a3))) := ⟨Blk4.putD HQ.out.1 _ _ _ _, (((HQ.out.2.setCell (Nat.le_refl _) _).setCell (Nat.le_refl _) _).setCell (Nat.le_refl _) _).setCell (Nat.le_refl _) _⟩
      go_simp
      refine hK.out _ _ (sE_later HSA.out HQ2.out.2) (fun hS => ?_)
      clear hK K z0 z1 z2 z3 f0 f1 f2 f3
      refine tkH 17 ?_ hS (fun wx hx => ?_) ?_; rotate_left
      · obtain ⟨⟨hx0, hx1, hx2, hx3, hx4⟩, _⟩ := H0.out.kb.later hx.1; obtain ⟨⟨hy0, hy1, hy2, hy3, hy4, hy5⟩, _⟩ := hx.2.1; go_simp; try with_reducible rfl
      refine wpAnyH_done (by kernel_rfl) ?_ _
      go_simp
      generalize ((((w6.setCell ⟨wa.heap.size, 0, none⟩ (.int .i64 a0)).setCell ⟨wa.heap.size, 1, none⟩ (.int .i64 a1)).setCell ⟨wa.heap.size, 2, none⟩ (.int .i64 a2)).setCell ⟨wa.heap.size, 3, none⟩ (.int .i64 a3)) = wz at HQ2 hS ⊢
    rotate_left
    all_goals
      have HSZ : Hid ((Below x0.heap.size x0 wz) ∧ Blk6 wz wr.heap.size (.int .i64 t.s) (.int .i64 t.c) (.int .i64 t.u) (.int .i64 t.st) (.int .i64 t.a) (.slice (some ⟨gy, oy, none⟩) t.m yc) ∧ RisD wz x0.heap.size (donesL R k)) := hS
      obtain ⟨⟨z0, z1, z2, z3⟩, _⟩ := HQ2.out.1
      clear hS HSA HQ HQ2
      rcases HSB.out with ⟨e1, e2⟩ | ⟨e1, e2⟩
      · subst e1
        have HE : Hid (donesL R (k + 1) = putD (donesL R k) (k, a1)) := by unfold Hid; rw [donesL, e2]
        clear e2 HSB
        go_wp2_with fail
        refine (put_anyD (donesL R k) x0.heap.size k a1 _ HSZ.out.2.2 (donesL_rises R k) (fun e he => by have := donesL_lt R k e he; omega) (by have := donesL_len R k; omega)).mono ?_
        rintro e w7 ⟨rfl, r7, q7⟩
        rw [← HE.out] at r7
        have H7 : Hid ((Below x0.heap.size x0 w7) ∧ RisD w7 x0.heap.size (donesL R (k + 1))) := ⟨HSZ.out.1.trans q7, r7⟩
        clear r7 q7 HSZ
        go_wp2
        go_roundw
        case rel => exact ⟨k + 1, by omega, by go_num, H7⟩
        case measure => simp [intOf]; omega
      · subst e1
        have HE : Hid (donesL R (k + 1) = donesL R k) := by unfold Hid; rw [donesL, e2]
        clear e2 HSB
        go_wp2
        go_roundw
        case rel =>
          refine ⟨k + 1, by omega, by go_num, HSZ.out.1, ?_⟩
          rw [HE.out]
          exact HSZ.out.2.2
        case measure => simp [intOf]; omega
end Go.Proofs.YtjkchhcnochjlaaGreatDoor

namespace Go.Proofs.YtjkchhcnochjlaaGreatDoor
open Go.RowKit

/-- The model's place: behind all whose commit is not above. -/
theorem place_model {L : Prs} {x : Int × Int} {i : Nat} (hx : ∀ e ∈ L, e.1 < x.1) (h : placeAt (fun j => (L.getD j (0, 0)).2 ≤ x.2) L.length i) : i = aheadDN L x := by
  obtain ⟨h1, h2, h3⟩ := h
  rcases Nat.lt_trichotomy i (aheadDN L x) with q | q | q
  · have hl := aheadDN_lt q
    unfold ltD at hl
    exact absurd (show (L.getD i (0, 0)).2 ≤ x.2 by omega) (h3 (Nat.lt_of_lt_of_le q (aheadDN_le L x)))
  · exact q
  · have hlen : aheadDN L x < L.length := by omega
    have hn := aheadDN_not hlen
    have hle := h2 _ q
    have hg : L.getD (aheadDN L x) (0, 0) = L[aheadDN L x] := by simp [List.getD, hlen]
    have hm := hx _ (List.getElem_mem hlen)
    simp only at hle
    rw [hg] at hn hle
    unfold ltD at hn
    exact absurd (show _ ∨ _ by omega) hn
theorem row_litD (w : World) (x0 x1 : Int) (t : TypeId) : Row (w.alloc (.cells #[.int .i64 x0, .int .i64 x1] t)) 0 2 1 (fun p => [x0, x1].getD p 0) (.slice (some ⟨w.heap.size, 0, none⟩) 1 1) := by
  refine ⟨_, _, rfl, fun _ => ⟨w.heap.size, 0, rfl, Nat.zero_le _, by simp, fun p hp => ?_⟩⟩
  rw [Nat.zero_add, World.cell?_alloc_mark]
  match p, hp with
  | 0, _ => rfl
  | 1, _ => rfl
/-- What the model asks of the first item's store, and whether it was done. -/
theorem stat_done {nl : Nat} {l : Nat → Int} {nw : Nat} {k : Nat → Int} {key start : Int} {r : Option Int} (hD : (∃ i, doneW k nw key start i ∧ r = some (k (i * 4 + 1))) ∨ ((∀ i, ¬ doneW k nw key start i) ∧ r = none)) :
    ∃ st, StatIs nl l nw k key start st ∧ ((st = 2 ∧ ∃ i, firstW k nw key start i ∧ r = some (k (i * 4 + 1))) ∨ (st ≠ 2 ∧ r = none)) := by
  obtain ⟨st, hst⟩ := StatIs.get nl l nw k key start
  refine ⟨st, hst, ?_⟩
  rcases hD with ⟨i, hi, rfl⟩ | ⟨hno, rfl⟩
  · refine Or.inl ⟨?_, i, hi.1, rfl⟩
    rcases hst with ⟨j, hj, h⟩ | ⟨hn, _⟩
    · obtain rfl := firstW_one hi.1 hj
      rcases h with ⟨h4, _⟩ | ⟨_, h2⟩
      · exact absurd h4 hi.2
      · exact h2
    · exact absurd hi.1 (hn i)
  · refine Or.inr ⟨?_, rfl⟩
    rintro rfl
    rcases hst with ⟨j, hj, h⟩ | ⟨_, h⟩
    · rcases h with ⟨_, h⟩ | ⟨h4, _⟩
      · exact absurd h (by decide)
      · exact hno j ⟨hj, h4⟩
    · rcases h with ⟨j, _, ⟨_, h⟩ | ⟨_, h⟩⟩ | ⟨_, h⟩
      · exact absurd h (by decide)
      · exact absurd h (by decide)
      · exact absurd h (by decide)
/-- What stands while a commit is looked up. -/
def LookE (w : World) (b gx ox k gs os gw ow i : Nat) (vt vw : Value) (s c : Int) (X : World) : Prop :=
  (X.cell? ⟨b, 5, none⟩ = some vt ∧ X.cell? ⟨gx, ox + k * 6, none⟩ = some (.int .i64 s) ∧ X.cell? ⟨gs, os + 2, none⟩ = some vw ∧ X.cell? ⟨gw, ow + i * 4 + 1, none⟩ = some (.int .i64 c)) ∧ Below w.heap.size w X
theorem LookE.later {w X X' : World} {b gx ox k gs os gw ow i : Nat} {vt vw : Value} {s c : Int} (h : LookE w b gx ox k gs os gw ow i vt vw s c X) (hb : Below X.heap.size X X') : LookE w b gx ox k gs os gw ow i vt vw s c X' :=
  ⟨⟨(hb.cell (lt_cell h.1.1)).trans h.1.1, (hb.cell (lt_cell h.1.2.1)).trans h.1.2.1, (hb.cell (lt_cell h.1.2.2.1)).trans h.1.2.2.1, (hb.cell (lt_cell h.1.2.2.2)).trans h.1.2.2.2⟩, h.2.trans (hb.mono h.2.size)⟩
/-- What stands while the place is looked for. -/
def InE (w : World) (z k : Nat) (c : Int) (L : Prs) (v : Value) (X : World) : Prop := Blk2 X z (.int .i64 k) (.int .i64 c) ∧ Own X w.heap.size 61 2 L.length (rowL L) v ∧ Below w.heap.size w X
theorem InE.drewN {w X : World} {z k : Nat} {c : Int} {L : Prs} {v : Value} (h : InE w z k c L v X) (q : Nat) : InE w z k c L v (X.drewN q) := ⟨h.1, h.2.1, below_dn h.2.2 _⟩
theorem Own.capD {w : World} {B : Nat} {e : TypeId} {m n : Nat} {ao : Option Addr} {cp : Nat} {F : Nat → Int} (h : Own w B e m n F (.slice ao n cp)) : n ≤ cp := by
  rcases h.2 with ⟨q, e⟩ | ⟨g, cap, cur, q, _, _, hn, _⟩
  · cases q; exact Nat.le_refl _
  · cases q; exact hn
set_option maxRecDepth 100000 in
set_option maxHeartbeats 8000000 in
theorem l11Committed_is (b : Nat) (nw nx bd : Int) (nr : Nat) (F : Nat → Int) (n : Nat) (S : Nat → Sto) (V : Nat → Nat → Value) (vr vs : Value) (nt : Nat) (T : Nat → Tx) (X : Nat → Value) (vt : Value) (R : Nat → Option Int) (w : World) (h : LiesD w b nw nx bd nr F n S V vr vs nt T X vt) (hr : nr ≤ 6) (hn : n = nr) (hs : ∀ i, i < n → (S i).nl ≤ 200 ∧ (S i).nw ≤ 200) (hnt : nt ≤ 16) (hit : ∀ i, i < nt → 1 ≤ (T i).m) (hR : ∀ i, i < nt → DoneAt nr F S (T i) (R i)) :
    Calls Tryz.prog 27 #[.pointer (some ⟨b, 0, none⟩)] w fun e w' => ∃ ao cp, e = .returned (.slice ao (donesL R nt).length cp) ∧ Own w' w.heap.size 61 2 (donesL R nt).length (rowL (donesL R nt)) (.slice ao (donesL R nt).length cp) ∧ Below w.heap.size w w' := by
  obtain ⟨a0, c0, a1, c1, rfl, rfl⟩ := h.2.1.form
  obtain ⟨a2, c2, rfl⟩ := h.2.2.form
  have H : Hid (LiesD w b nw nx bd nr F n S V (.slice a0 nr c0) (.slice a1 n c1) nt T X (.slice a2 nt c2)) := h
  have HR : Hid (∀ i, i < nt → DoneAt nr F S (T i) (R i)) := hR
  have HIT : Hid (∀ i, i < nt → 1 ≤ (T i).m) := hit
  have HS : Hid (∀ i, i < n → (S i).nl ≤ 200 ∧ (S i).nw ≤ 200) := hs
  have p5 : w.cell? ⟨b, 5, none⟩ = some (.slice a2 nt c2) := h.1.1.2.2.2.2.2
  have hb : b < w.heap.size := h.1.lt
  obtain ⟨i0, hi, hz0, hz1, hz2⟩ := info_parts infoz_Done
  clear h hR hit hs
  go_enter Tryz.func27, Tryz.ntmps27
  go_wp2
  go_loopw [3, 4] (fun out i wr => ∃ (k : Nat) (ao : Option Addr) (cp : Nat), k ≤ nt ∧ i = .int .i64 k ∧ out = .slice ao (donesL R k).length cp ∧ Hid (Own wr w.heap.size 61 2 (donesL R k).length (rowL (donesL R k)) (.slice ao (donesL R k).length cp)) ∧ Hid (Below w.heap.size w wr)) (fun _ i _ => nt - (intOf i).toNat)
  case atStart => exact ⟨0, _, _, Nat.zero_le _, rfl, rfl, (OwnM.lit0 w w.heap.size 61 2 rfl).own rfl, below_alloc _ _⟩
  case round =>
    obtain ⟨k, ao, cp, hk, rfl, rfl, HO, HB⟩ := hrel
    have q5 := (HB.out.cell (p := ⟨b, 5, none⟩) hb).trans p5
    by_cases hlt : k < nt
    case neg =>
      obtain rfl : k = nt := by omega
      obtain ⟨LN, hLN⟩ : ∃ LN, (donesL R k).length = LN := ⟨_, rfl⟩
      have HLN : Hid ((donesL R k).length = LN) := hLN
      rw [hLN]
      clear hLN
      go_wp2
      refine bodyPost_ret (v := .slice ao LN cp) (by simp [results, Tryz.results27, go_sem]) rfl ?_
      rw [← HLN.out]
      exact ⟨ao, cp, rfl, HO.out, HB.out⟩
    obtain ⟨L, hL⟩ : ∃ L, donesL R k = L := ⟨_, rfl⟩
    have hLl : L.length ≤ 16 := by have := donesL_len R k; rw [hL] at this; omega
    have HLT : Hid ((∀ e ∈ L, e.1 < (k : Int)) ∧ donesL R k = L) := ⟨fun e he => donesL_lt R k e (by rw [hL]; exact he), hL⟩
    rw [hL] at HO ⊢
    clear hL
    obtain ⟨gx, ox, hax, _, hgx, ⟨x0, _, _, _, _, x5⟩, hrow, _⟩ := H.out.2.2.at hlt
    subst hax
    have hm1 := HIT.out k hlt
    obtain ⟨j, hj, hD⟩ := HR.out k hlt
    obtain ⟨t, ht⟩ : ∃ t, T k = t := ⟨_, rfl⟩
    rw [ht] at x0 hrow hm1 hj hD
    obtain ⟨y, hy⟩ : ∃ y, X k = y := ⟨_, rfl⟩
    rw [hy] at x5 hrow
    clear ht hy
    obtain ⟨yo, yc, rfl⟩ := hrow.form
    obtain ⟨gy, oy, hyo, _, hgy, k0, _, _⟩ := hrow.at3 (k := 0) (by omega)
    subst hyo
    simp only [Nat.zero_mul, Nat.add_zero] at k0
    obtain ⟨key, hkey⟩ : ∃ x, t.L 0 = x := ⟨_, rfl⟩
    rw [hkey] at k0 hj hD
    have HJ : Hid (AtR nr F key j) := hj
    have hjn : j < n := by rw [hn]; exact hj.1
    obtain ⟨gs, os, has, _, hgs, _, _⟩ := H.out.2.1.2.at hjn
    subst has
    obtain ⟨st, hst, hD⟩ := stat_done (nl := (S j).nl) (l := (S j).l) hD
    have HST : Hid (StatIs (S j).nl (S j).l (S j).nw (S j).k key t.s st) := hst
    have HDD : Hid ((st = 2 ∧ ∃ i, firstW (S j).k (S j).nw key t.s i ∧ R k = some ((S j).k (i * 4 + 1))) ∨ (st ≠ 2 ∧ R k = none)) := hD
    clear hj hD hst hrow hkey
    have r0 := (HB.out.cell (p := ⟨gx, ox + k * 6, none⟩) hgx).trans x0
    have r5 := (HB.out.cell (p := ⟨gx, ox + k * 6 + 5, none⟩) hgx).trans x5
    have rk := (HB.out.cell (p := ⟨gy, oy, none⟩) hgy).trans k0
    go_wp2_with fail
    refine (l7For_at nr F n S V _ _ gs os c1 key j b _ (H.out.later HB.out).groups hr HJ.out hjn).mono ?_
    rintro e w1 ⟨rfl, hw1⟩
    have HB1 : Hid (Below w.heap.size w w1) := by rw [hw1]; exact below_dr HB.out 1
    have HO1 : Hid (Own w1 w.heap.size 61 2 L.length (rowL L) (.slice ao L.length cp)) := by rw [hw1]; exact HO.out
    have L1 : Hid (LiesO w1 gs (os + j * 3) (S j) (V j 0) (V j 1) (V j 2)) := (H.out.2.1.2.later HB1.out).o hjn
    clear hw1 q5 r0 r5 rk HO HB
    have q5 := (HB1.out.cell (p := ⟨b, 5, none⟩) hb).trans p5
    have r0 := (HB1.out.cell (p := ⟨gx, ox + k * 6, none⟩) hgx).trans x0
    go_wp2_with fail
    refine (l4Status_isO (S j) gs (os + j * 3) _ _ _ key t.s st _ L1.out (HS.out j hjn).1 (HS.out j hjn).2 HST.out).mono ?_
    rintro e w2 ⟨rfl, hw2⟩
    obtain rfl := hw2.symm
    clear hw2
    rcases HDD.out with ⟨h2, i, hfi, hRk⟩ | ⟨h2, hRk⟩
    case inr =>
      have d2 : (st != 2) = true := bne_iff_ne.2 h2
      have HE : Hid (donesL R (k + 1) = L) := by unfold Hid; rw [donesL, hRk]; exact HLT.out.2
      clear h2 hRk HDD
      go_wp2
      go_roundw
      case rel => exact ⟨k + 1, ao, cp, by omega, by go_num, by rw [HE.out], by rw [HE.out]; exact HO1, HB1⟩
      case measure => simp [intOf]; omega
    subst h2
    obtain ⟨f0, e0, f1, e1, f2, e2, v0, v1, v2⟩ := L1.out.2.form
    have p2 := L1.out.1.2.2
    rw [v2] at p2
    have R2 := L1.out.2.2.2
    rw [v2] at R2
    obtain ⟨gw, ow, rfl, _, hgw, _, y1, _, _⟩ := R2.at4 hfi.1
    obtain ⟨c, hc⟩ : ∃ c, (S j).k (i * 4 + 1) = c := ⟨_, rfl⟩
    rw [hc] at y1 hRk
    have HNX : Hid (donesL R (k + 1) = putD L (k, c)) := by unfold Hid; rw [donesL, hRk, HLT.out.2]
    have HFI : Hid (firstW (S j).k (S j).nw key t.s i) := hfi
    have hin : (i : Int) < ((S j).nw : Int) := by have := hfi.1; omega
    have hS0 : LookE w b gx ox k gs (os + j * 3) gw ow i (.slice (some ⟨gx, ox, none⟩) nt c2) (.slice (some ⟨gw, ow, none⟩) (S j).nw e2) t.s c w1.drew := ⟨⟨q5, r0, p2, y1⟩, HB1.out.drew⟩
    clear hfi hRk hc HDD HST v0 v1 v2 R2
    go_wp2_with fail
    refine wp_region_held_drew (S := LookE w b gx ox k gs (os + j * 3) gw ow i (.slice (some ⟨gx, ox, none⟩) nt c2) (.slice (some ⟨gw, ow, none⟩) (S j).nw e2) t.s c) (by kernel_rfl) hS0 (fun hS => ?_)
    have La : Hid (LiesO w1.drew gs (os + j * 3) (S j) (V j 0) (V j 1) (V j 2)) := L1.out.later (Below.refl _ w1).drew
    have HOa : Hid (Own w1.drew w.heap.size 61 2 L.length (rowL L) (.slice ao L.length cp)) := HO1.out
    clear hS0 q5 r0 p2 y1 L1 HO1 HB1
    generalize w1.drew = wa at hS La HOa ⊢
    refine tkH 0 ?_ hS (fun wx hx => ?_) ?_; rotate_left
    · obtain ⟨⟨hx0, hx1, hx2, hx3⟩, _⟩ := hx; go_simp; try with_reducible rfl
    refine tkH 1 ?_ hS (fun wx hx => ?_) ?_; rotate_left
    · obtain ⟨⟨hx0, hx1, hx2, hx3⟩, _⟩ := hx; go_simp; try with_reducible rfl
    refine tkH 2 ?_ hS (fun wx hx => ?_) ?_; rotate_left
    · obtain ⟨⟨hx0, hx1, hx2, hx3⟩, _⟩ := hx; go_simp; try with_reducible rfl
    try simp only [Act.put, List.getElem_toArray, List.getElem_cons_zero, List.getElem_cons_succ, List.setIfInBounds_toArray, List.set_cons_succ, List.set_cons_zero]
    refine tkH 3 ?_ hS (fun wx hx => ?_) ?_; rotate_left
    · obtain ⟨⟨hx0, hx1, hx2, hx3⟩, _⟩ := hx; go_simp; try with_reducible rfl
    refine tkH 4 ?_ hS (fun wx hx => ?_) ?_; rotate_left
    · obtain ⟨⟨hx0, hx1, hx2, hx3⟩, _⟩ := hx; go_simp; try with_reducible rfl
    refine tkH 5 ?_ hS (fun wx hx => ?_) ?_; rotate_left
    · obtain ⟨⟨hx0, hx1, hx2, hx3⟩, _⟩ := hx; go_simp; try with_reducible rfl
    try simp only [Act.put, List.getElem_toArray, List.getElem_cons_zero, List.getElem_cons_succ, List.setIfInBounds_toArray, List.set_cons_succ, List.set_cons_zero]
    refine tkH 6 ?_ hS (fun wx hx => ?_) ?_; rotate_left
    · obtain ⟨⟨hx0, hx1, hx2, hx3⟩, _⟩ := hx; go_simp; try with_reducible rfl
    refine tkH 7 ?_ hS (fun wx hx => ?_) ?_; rotate_left
    · obtain ⟨⟨hx0, hx1, hx2, hx3⟩, _⟩ := hx; go_simp; try with_reducible rfl
    refine tkH 8 ?_ hS (fun wx hx => ?_) ?_; rotate_left
    · obtain ⟨⟨hx0, hx1, hx2, hx3⟩, _⟩ := hx; go_simp; try with_reducible rfl
    try simp only [Act.put, List.getElem_toArray, List.getElem_cons_zero, List.getElem_cons_succ, List.setIfInBounds_toArray, List.set_cons_succ, List.set_cons_zero]
    refine tkH 9 ?_ hS (fun wx hx => ?_) ?_; rotate_left
    · obtain ⟨⟨hx0, hx1, hx2, hx3⟩, _⟩ := hx; go_simp; try with_reducible rfl
    refine tkH 10 ?_ hS (fun wx hx => ?_) ?_; rotate_left
    · obtain ⟨⟨hx0, hx1, hx2, hx3⟩, _⟩ := hx; go_simp; try with_reducible rfl
    refine tkH 11 ?_ hS (fun wx hx => ?_) ?_; rotate_left
    · obtain ⟨⟨hx0, hx1, hx2, hx3⟩, _⟩ := hx; go_simp; try with_reducible rfl
    try simp only [Act.put, List.getElem_toArray, List.getElem_cons_zero, List.getElem_cons_succ, List.setIfInBounds_toArray, List.set_cons_succ, List.set_cons_zero]
    refine tkH 12 ?_ hS (fun wx hx => ?_) ?_; rotate_left
    · obtain ⟨⟨hx0, hx1, hx2, hx3⟩, _⟩ := hx; go_simp; try with_reducible rfl
    refine tkH 13 ?_ hS (fun wx hx => ?_) ?_; rotate_left
    · obtain ⟨⟨hx0, hx1, hx2, hx3⟩, _⟩ := hx; go_simp; try with_reducible rfl
    refine tkH 14 ?_ hS (fun wx hx => ?_) ?_; rotate_left
    · obtain ⟨⟨hx0, hx1, hx2, hx3⟩, _⟩ := hx; go_simp; try with_reducible rfl
    try simp only [Act.put, List.getElem_toArray, List.getElem_cons_zero, List.getElem_cons_succ, List.setIfInBounds_toArray, List.set_cons_succ, List.set_cons_zero]
    have HSA : Hid (LookE w b gx ox k gs (os + j * 3) gw ow i (.slice (some ⟨gx, ox, none⟩) nt c2) (.slice (some ⟨gw, ow, none⟩) (S j).nw e2) t.s c wa) := hS
    refine wpAnyH_ready (rs := [15, 20]) (by kernel_rfl) (by simp) ?_
    refine AllReadyH.cons rfl (fun K hK => ?_) (AllReadyH.cons rfl (fun K hK => ?_) AllReadyH.nil)
    focus
      go_simp
      go_wp2_with fail
      refine (write_yesO (S j) gs (os + j * 3) _ _ _ key t.s i _ La.out (HS.out j hjn).2 HFI.out).mono ?_
      rintro e w3 ⟨rfl, hw3⟩
      obtain rfl := hw3.symm
      clear hw3
      go_wp2_with fail
      refine hK.out _ _ hS (fun hS => ?_)
      clear hK K
      refine tkH 16 ?_ hS (fun wx hx => ?_) ?_; rotate_left
      · obtain ⟨⟨hx0, hx1, hx2, hx3⟩, _⟩ := hx; go_simp; try with_reducible rfl
      refine tkH 17 ?_ hS (fun wx hx => ?_) ?_; rotate_left
      · obtain ⟨⟨hx0, hx1, hx2, hx3⟩, _⟩ := hx; go_simp; try with_reducible rfl
      refine tkH 18 ?_ hS (fun wx hx => ?_) ?_; rotate_left
      · obtain ⟨⟨hx0, hx1, hx2, hx3⟩, _⟩ := hx; go_simp; try with_reducible rfl
      try simp only [Act.put, List.getElem_toArray, List.getElem_cons_zero, List.getElem_cons_succ, List.setIfInBounds_toArray, List.set_cons_succ, List.set_cons_zero]
      refine tkH 19 ?_ hS (fun wx hx => ?_) ?_; rotate_left
      · obtain ⟨⟨hx0, hx1, hx2, hx3⟩, _⟩ := hx; go_simp; try with_reducible rfl
      refine rdH 20 (fun K hK => ?_)
      go_simp
      refine hK.out _ _ (HSA.out.later (below_alloc _ _)) (fun hS => ?_)
      clear hK K
    rotate_left
    focus
      go_simp
      refine hK.out _ _ (HSA.out.later (below_alloc _ _)) (fun hS => ?_)
      clear hK K
      refine rdH 15 (fun K hK => ?_)
      go_simp
      go_wp2_with fail
      refine (write_yesO (S j) gs (os + j * 3) _ _ _ key t.s i _ (La.out.later (below_alloc _ _)) (HS.out j hjn).2 HFI.out).mono ?_
      rintro e w3 ⟨rfl, hw3⟩
      obtain rfl := hw3.symm
      clear hw3
      go_wp2_with fail
      refine hK.out _ _ hS (fun hS => ?_)
      clear hK K
      refine tkH 16 ?_ hS (fun wx hx => ?_) ?_; rotate_left
      · obtain ⟨⟨hx0, hx1, hx2, hx3⟩, _⟩ := hx; go_simp; try with_reducible rfl
      refine tkH 17 ?_ hS (fun wx hx => ?_) ?_; rotate_left
      · obtain ⟨⟨hx0, hx1, hx2, hx3⟩, _⟩ := hx; go_simp; try with_reducible rfl
      refine tkH 18 ?_ hS (fun wx hx => ?_) ?_; rotate_left
      · obtain ⟨⟨hx0, hx1, hx2, hx3⟩, _⟩ := hx; go_simp; try with_reducible rfl
      try simp only [Act.put, List.getElem_toArray, List.getElem_cons_zero, List.getElem_cons_succ, List.setIfInBounds_toArray, List.set_cons_succ, List.set_cons_zero]
      refine tkH 19 ?_ hS (fun wx hx => ?_) ?_; rotate_left
      · obtain ⟨⟨hx0, hx1, hx2, hx3⟩, _⟩ := hx; go_simp; try with_reducible rfl
    rotate_left
    all_goals
      refine rdH 21 (fun K hK => ?_)
      go_simp
      refine hK.out _ _ (HSA.out.later (below_alloc wa (.cells #[.int .i64 k, .int .i64 c] 61))) (fun hS => ?_)
      clear hK K
      refine wpAnyH_done (by kernel_rfl) ?_ _
      go_simp
      have HI0 : Hid (InE w wa.heap.size k c L (.slice ao L.length cp) (wa.alloc (.cells #[.int .i64 k, .int .i64 c] 61))) := ⟨Blk2.new wa _ _ _, HOa.out.alloc _, HSA.out.2.alloc HSA.out.2.size _⟩
      generalize (wa.alloc (.cells #[.int .i64 k, .int .i64 c] 61)) = Xa at HI0 ⊢
      clear hS HSA La HOa
      go_wp2
      go_loopw [8] (fun i2 wr2 => ∃ q : Nat, i2 = .int .i64 q ∧ q ≤ L.length ∧ Hid (∀ j, j < q → (L.getD j (0, 0)).2 ≤ c) ∧ Hid (InE w wa.heap.size k c L (.slice ao L.length cp) wr2)) (fun i2 _ => L.length - (intOf i2).toNat)
      case atStart => exact ⟨0, rfl, Nat.zero_le _, fun j hj => absurd hj (Nat.not_lt_zero j), HI0⟩
      case round =>
        clear HI0
        obtain ⟨q, rfl, hq, hP, HI⟩ := hrel
        have hcap : L.length ≤ cp := HI.out.2.1.capD
        obtain ⟨⟨t0, t1⟩, _, _⟩ := HI.out.1
        by_cases hlt2 : q < L.length
        · obtain ⟨g2, o2, hao2, _, hg2, _, z1⟩ := HI.out.2.1.row.1.at2 hlt2
          subst hao2
          rw [rowL_val] at z1
          obtain ⟨y2, N2⟩ : ∃ y, (L.getD q (0, 0)).2 = y := ⟨_, rfl⟩
          rw [N2] at z1
          have HN2 : Hid ((L.getD q (0, 0)).2 = y2) := N2
          clear N2
          by_cases hle : y2 ≤ c
          · have HP : Hid (∀ j, j < q + 1 → (L.getD j (0, 0)).2 ≤ c) := fun j hj => by
              rcases Nat.lt_or_ge j q with r | r
              · exact hP.out j r
              · obtain rfl : j = q := by omega
                rw [HN2.out]
                exact hle
            have d2 : decide (y2 ≤ c) = true := decide_eq_true hle
            clear hP
            go_wp2
            go_quiet (fail)
            go_wp2
            go_roundw
            case rel => exact ⟨q + 1, by go_num, by omega, HP, HI.out.drewN _⟩
            case measure => simp [intOf]; omega
          · have HQ : Hid (q = aheadDN L (k, c)) := place_model HLT.out.1 ⟨hq, hP.out, fun _ => by show ¬ ((L.getD q (0, 0)).2 ≤ c); rw [HN2.out]; exact hle⟩
            have d2 : decide (y2 ≤ c) = false := decide_eq_false hle
            clear hP
            go_wp2
            go_quiet (fail)
            have HI : Hid (InE w wa.heap.size k c L (.slice (some ⟨g2, o2, none⟩) L.length cp) (wr.drewN nq)) := HI.out.drewN _
            generalize wr.drewN nq = Xr at HI ⊢
            have hzr : wa.heap.size < Xr.heap.size := HI.out.1.lt
            have HRow : Hid (Row Xr 0 2 L.length (rowL L) (.slice (some ⟨g2, o2, none⟩) L.length cp)) := HI.out.2.1.row.1.mono (Nat.zero_le _)
            have HBX : Hid (Below w.heap.size w Xr) := HI.out.2.2
            have hqcp : q ≤ cp := by omega
            go_wp2_with (at_builtin; refine wpList_app 61 i0 (.agg #[.int .i64 0, .int .i64 0]) 2 16 rfl _ _ 58 rfl Tryz.underlying58 hi hz0 hz1 hz2 rfl (by omega) (by omega) _ Xr.heap.size 0 [] _ rfl (OwnM.lit0 _ _ _ _ (by simp)) 0 q (rowL L) _ rfl ((HRow.out.head hq cp).alloc _) (by omega) (by simp) ?_; intro ao1 cp1 w2 O2 G2)
            rw [Nat.zero_add, List.nil_append] at O2
            have D2 : Below Xr.heap.size Xr w2 := (below_alloc _ _).grown G2 (by simp) (fun r e => by cases e; exact Nat.le_refl _)
            have O2' : Hid (OwnM w2 Xr.heap.size 61 2 (.slice ao1 q cp1) q (nums (rowL L) (q * 2))) := O2
            clear O2 G2
            refine wp_region_held_drew (S := fun Y : World => Below Xr.heap.size Xr Y) (by kernel_rfl) D2.drew (fun hS => ?_)
            refine tkH 0 ?_ hS (fun wx hx => ?_) ?_; rotate_left
            · have hx0 := (hx.cell (p := ⟨wa.heap.size, 0, none⟩) hzr).trans HI.out.1.1.1; have hx1 := (hx.cell (p := ⟨wa.heap.size, 1, none⟩) hzr).trans HI.out.1.1.2; go_simp; try with_reducible rfl
            refine tkH 1 ?_ hS (fun wx hx => ?_) ?_; rotate_left
            · have hx0 := (hx.cell (p := ⟨wa.heap.size, 0, none⟩) hzr).trans HI.out.1.1.1; have hx1 := (hx.cell (p := ⟨wa.heap.size, 1, none⟩) hzr).trans HI.out.1.1.2; go_simp; try with_reducible rfl
            refine tkH 4 ?_ hS (fun wx hx => ?_) ?_; rotate_left
            · have hx0 := (hx.cell (p := ⟨wa.heap.size, 0, none⟩) hzr).trans HI.out.1.1.1; have hx1 := (hx.cell (p := ⟨wa.heap.size, 1, none⟩) hzr).trans HI.out.1.1.2; go_simp; try with_reducible rfl
            refine tkH 5 ?_ hS (fun wx hx => ?_) ?_; rotate_left
            · have hx0 := (hx.cell (p := ⟨wa.heap.size, 0, none⟩) hzr).trans HI.out.1.1.1; have hx1 := (hx.cell (p := ⟨wa.heap.size, 1, none⟩) hzr).trans HI.out.1.1.2; go_simp; try with_reducible rfl
            refine tkH 6 ?_ hS (fun wx hx => ?_) ?_; rotate_left
            · have hx0 := (hx.cell (p := ⟨wa.heap.size, 0, none⟩) hzr).trans HI.out.1.1.1; have hx1 := (hx.cell (p := ⟨wa.heap.size, 1, none⟩) hzr).trans HI.out.1.1.2; go_simp; try with_reducible rfl
            try simp only [Act.put, List.getElem_toArray, List.getElem_cons_zero, List.getElem_cons_succ, List.setIfInBounds_toArray, List.set_cons_succ, List.set_cons_zero]
            refine rdH 2 (fun K hK => ?_)
            go_simp
            have S3 : Below Xr.heap.size Xr (w2.drew.alloc (.cells #[.int .i64 k, .int .i64 c] 61)) := hS.alloc hS.size _
            have O3 : Hid (OwnM (w2.drew.alloc (.cells #[.int .i64 k, .int .i64 c] 61)) Xr.heap.size 61 2 (.slice ao1 q cp1) q (nums (rowL L) (q * 2))) := O2'.out.later (below_alloc w2 _).drew
            have R3 : Hid (Row (w2.drew.alloc (.cells #[.int .i64 k, .int .i64 c] 61)) 0 2 1 (fun p => [(k : Int), c].getD p 0) (.slice (some ⟨w2.heap.size, 0, none⟩) 1 1)) := row_litD w2.drew k c 61
            refine hK.out _ _ S3 (fun hS => ?_)
            clear hK K S3
            refine rdH 3 (fun K hK => ?_)
            refine step_app 61 i0 (.agg #[.int .i64 0, .int .i64 0]) 2 16 (by rfl) _ _ 58 (by rfl) Tryz.underlying58 hi hz0 hz1 hz2 rfl (by omega) (by omega) _ Xr.heap.size q (nums (rowL L) (q * 2)) (.slice ao1 q cp1) (by rfl) O3.out 0 1 (fun p => [(k : Int), c].getD p 0) (.slice (some ⟨w2.heap.size, 0, none⟩) 1 1) (by rfl) R3.out (by omega) hS.size ?_
            intro ao3 cp3 w4 O4 G4
            have S4 : Below Xr.heap.size Xr w4 := hS.grown G4 hS.size (fun r e => (O3.out.block r e).1)
            have O4' : Hid (OwnM w4 Xr.heap.size 61 2 (.slice ao3 (q + 1) cp3) (q + 1) (nums (rowL L) (q * 2) ++ [(k : Int), c])) := O4
            clear O4 G4 O3 R3 O2'
            refine hK.out _ _ S4 (fun hS => ?_)
            clear hK K S4
            refine rdH 7 (fun K hK => ?_)
            refine step_app 61 i0 (.agg #[.int .i64 0, .int .i64 0]) 2 16 (by rfl) _ _ 58 (by rfl) Tryz.underlying58 hi hz0 hz1 hz2 rfl (by omega) (by omega) _ Xr.heap.size (q + 1) (nums (rowL L) (q * 2) ++ [(k : Int), c]) (.slice ao3 (q + 1) cp3) (by rfl) O4'.out 0 (L.length - q) (fun p => rowL L (q * 2 + p)) (.slice (if cp = q then some ⟨g2, o2, none⟩ else some ⟨g2, o2 + q * 2, none⟩) (L.length - q) (cp - q)) (by rfl) ((HRow.out.later hS).tailS hlt2 hcap) (by omega) hS.size ?_
            intro ao5 cp5 w6 O6 G6
            have S6 : Below Xr.heap.size Xr w6 := hS.grown G6 hS.size (fun r e => (O4'.out.block r e).1)
            have HO6 : Hid (Own w6 w.heap.size 61 2 (donesL R (k + 1)).length (rowL (donesL R (k + 1))) (.slice ao5 (donesL R (k + 1)).length cp5)) := by
              have e1 : q + 1 + (L.length - q) = L.length + 1 := by omega
              rw [e1] at O6
              unfold Hid
              rw [HNX.out, putD_length]
              refine own_eqP ((OwnM.own O6 (by rw [List.length_append, List.length_append, nums_length, nums_length]; simp; omega)).mono HBX.out.size) (fun p hp => ?_)
              unfold putD
              rw [← HQ.out]
              exact rowL_insert hq hp
            have e8 : Hid (q + 1 + (L.length - q) = (donesL R (k + 1)).length) := by unfold Hid; rw [HNX.out, putD_length]; omega
            clear O6 G6 O4'
            refine hK.out _ _ S6 (fun hS => ?_)
            clear hK K S6
            refine tkH 8 ?_ hS (fun wx hx => ?_) ?_; rotate_left
            · have hx0 := (hx.cell (p := ⟨wa.heap.size, 0, none⟩) hzr).trans HI.out.1.1.1; have hx1 := (hx.cell (p := ⟨wa.heap.size, 1, none⟩) hzr).trans HI.out.1.1.2; go_simp; try with_reducible rfl
            refine wpAnyH_done (by kernel_rfl) ?_ _
            go_simp
            go_wp2
            all_goals
              go_roundw
              case rel => exact ⟨k + 1, ao5, cp5, by omega, by go_num, by rw [e8.out], HO6, HBX.out.trans (hS.mono HBX.out.size)⟩
              case measure => simp [intOf]; omega
        · have HQ : Hid (q = aheadDN L (k, c)) := place_model HLT.out.1 ⟨hq, hP.out, fun r => absurd r hlt2⟩
          clear hP
          go_wp2
          go_quiet (fail)
          have HI : Hid (InE w wa.heap.size k c L (.slice ao L.length cp) (wr.drewN nq)) := HI.out.drewN _
          generalize wr.drewN nq = Xr at HI ⊢
          have hzr : wa.heap.size < Xr.heap.size := HI.out.1.lt
          have HRow : Hid (Row Xr 0 2 L.length (rowL L) (.slice ao L.length cp)) := HI.out.2.1.row.1.mono (Nat.zero_le _)
          have HBX : Hid (Below w.heap.size w Xr) := HI.out.2.2
          have hqcp : q ≤ cp := by omega
          go_wp2_with (at_builtin; refine wpList_app 61 i0 (.agg #[.int .i64 0, .int .i64 0]) 2 16 rfl _ _ 58 rfl Tryz.underlying58 hi hz0 hz1 hz2 rfl (by omega) (by omega) _ Xr.heap.size 0 [] _ rfl (OwnM.lit0 _ _ _ _ (by simp)) 0 q (rowL L) _ rfl ((HRow.out.head hq cp).alloc _) (by omega) (by simp) ?_; intro ao1 cp1 w2 O2 G2)
          rw [Nat.zero_add, List.nil_append] at O2
          have D2 : Below Xr.heap.size Xr w2 := (below_alloc _ _).grown G2 (by simp) (fun r e => by cases e; exact Nat.le_refl _)
          have O2' : Hid (OwnM w2 Xr.heap.size 61 2 (.slice ao1 q cp1) q (nums (rowL L) (q * 2))) := O2
          clear O2 G2
          refine wp_region_held_drew (S := fun Y : World => Below Xr.heap.size Xr Y) (by kernel_rfl) D2.drew (fun hS => ?_)
          refine tkH 0 ?_ hS (fun wx hx => ?_) ?_; rotate_left
          · have hx0 := (hx.cell (p := ⟨wa.heap.size, 0, none⟩) hzr).trans HI.out.1.1.1; have hx1 := (hx.cell (p := ⟨wa.heap.size, 1, none⟩) hzr).trans HI.out.1.1.2; go_simp; try with_reducible rfl
          refine tkH 1 ?_ hS (fun wx hx => ?_) ?_; rotate_left
          · have hx0 := (hx.cell (p := ⟨wa.heap.size, 0, none⟩) hzr).trans HI.out.1.1.1; have hx1 := (hx.cell (p := ⟨wa.heap.size, 1, none⟩) hzr).trans HI.out.1.1.2; go_simp; try with_reducible rfl
          refine tkH 4 ?_ hS (fun wx hx => ?_) ?_; rotate_left
          · have hx0 := (hx.cell (p := ⟨wa.heap.size, 0, none⟩) hzr).trans HI.out.1.1.1; have hx1 := (hx.cell (p := ⟨wa.heap.size, 1, none⟩) hzr).trans HI.out.1.1.2; go_simp; try with_reducible rfl
          refine tkH 5 ?_ hS (fun wx hx => ?_) ?_; rotate_left
          · have hx0 := (hx.cell (p := ⟨wa.heap.size, 0, none⟩) hzr).trans HI.out.1.1.1; have hx1 := (hx.cell (p := ⟨wa.heap.size, 1, none⟩) hzr).trans HI.out.1.1.2; go_simp; try with_reducible rfl
          refine tkH 6 ?_ hS (fun wx hx => ?_) ?_; rotate_left
          · have hx0 := (hx.cell (p := ⟨wa.heap.size, 0, none⟩) hzr).trans HI.out.1.1.1; have hx1 := (hx.cell (p := ⟨wa.heap.size, 1, none⟩) hzr).trans HI.out.1.1.2; go_simp; try with_reducible rfl
          try simp only [Act.put, List.getElem_toArray, List.getElem_cons_zero, List.getElem_cons_succ, List.setIfInBounds_toArray, List.set_cons_succ, List.set_cons_zero]
          refine rdH 2 (fun K hK => ?_)
          go_simp
          have S3 : Below Xr.heap.size Xr (w2.drew.alloc (.cells #[.int .i64 k, .int .i64 c] 61)) := hS.alloc hS.size _
          have O3 : Hid (OwnM (w2.drew.alloc (.cells #[.int .i64 k, .int .i64 c] 61)) Xr.heap.size 61 2 (.slice ao1 q cp1) q (nums (rowL L) (q * 2))) := O2'.out.later (below_alloc w2 _).drew
          have R3 : Hid (Row (w2.drew.alloc (.cells #[.int .i64 k, .int .i64 c] 61)) 0 2 1 (fun p => [(k : Int), c].getD p 0) (.slice (some ⟨w2.heap.size, 0, none⟩) 1 1)) := row_litD w2.drew k c 61
          refine hK.out _ _ S3 (fun hS => ?_)
          clear hK K S3
          refine rdH 3 (fun K hK => ?_)
          refine step_app 61 i0 (.agg #[.int .i64 0, .int .i64 0]) 2 16 (by rfl) _ _ 58 (by rfl) Tryz.underlying58 hi hz0 hz1 hz2 rfl (by omega) (by omega) _ Xr.heap.size q (nums (rowL L) (q * 2)) (.slice ao1 q cp1) (by rfl) O3.out 0 1 (fun p => [(k : Int), c].getD p 0) (.slice (some ⟨w2.heap.size, 0, none⟩) 1 1) (by rfl) R3.out (by omega) hS.size ?_
          intro ao3 cp3 w4 O4 G4
          have S4 : Below Xr.heap.size Xr w4 := hS.grown G4 hS.size (fun r e => (O3.out.block r e).1)
          have O4' : Hid (OwnM w4 Xr.heap.size 61 2 (.slice ao3 (q + 1) cp3) (q + 1) (nums (rowL L) (q * 2) ++ [(k : Int), c])) := O4
          clear O4 G4 O3 R3 O2'
          refine hK.out _ _ S4 (fun hS => ?_)
          clear hK K S4
          refine rdH 7 (fun K hK => ?_)
          refine step_app 61 i0 (.agg #[.int .i64 0, .int .i64 0]) 2 16 (by rfl) _ _ 58 (by rfl) Tryz.underlying58 hi hz0 hz1 hz2 rfl (by omega) (by omega) _ Xr.heap.size (q + 1) (nums (rowL L) (q * 2) ++ [(k : Int), c]) (.slice ao3 (q + 1) cp3) (by rfl) O4'.out 0 (L.length - q) (fun p => rowL L (q * 2 + p)) (.slice (if cp = q then ao else Option.map (fun x => x.add (q * 2)) ao) (L.length - q) (cp - q)) (by rfl) (Row.over _ _ _ _ _ _ _ _ hlt2) (by omega) hS.size ?_
          intro ao5 cp5 w6 O6 G6
          have S6 : Below Xr.heap.size Xr w6 := hS.grown G6 hS.size (fun r e => (O4'.out.block r e).1)
          have HO6 : Hid (Own w6 w.heap.size 61 2 (donesL R (k + 1)).length (rowL (donesL R (k + 1))) (.slice ao5 (donesL R (k + 1)).length cp5)) := by
            have e1 : q + 1 + (L.length - q) = L.length + 1 := by omega
            rw [e1] at O6
            unfold Hid
            rw [HNX.out, putD_length]
            refine own_eqP ((OwnM.own O6 (by rw [List.length_append, List.length_append, nums_length, nums_length]; simp; omega)).mono HBX.out.size) (fun p hp => ?_)
            unfold putD
            rw [← HQ.out]
            exact rowL_insert hq hp
          have e8 : Hid (q + 1 + (L.length - q) = (donesL R (k + 1)).length) := by unfold Hid; rw [HNX.out, putD_length]; omega
          clear O6 G6 O4'
          refine hK.out _ _ S6 (fun hS => ?_)
          clear hK K S6
          refine tkH 8 ?_ hS (fun wx hx => ?_) ?_; rotate_left
          · have hx0 := (hx.cell (p := ⟨wa.heap.size, 0, none⟩) hzr).trans HI.out.1.1.1; have hx1 := (hx.cell (p := ⟨wa.heap.size, 1, none⟩) hzr).trans HI.out.1.1.2; go_simp; try with_reducible rfl
          refine wpAnyH_done (by kernel_rfl) ?_ _
          go_simp
          go_wp2
          all_goals
            go_roundw
            case rel => exact ⟨k + 1, ao5, cp5, by omega, by go_num, by rw [e8.out], HO6, HBX.out.trans (hS.mono HBX.out.size)⟩
            case measure => simp [intOf]; omega
end Go.Proofs.YtjkchhcnochjlaaGreatDoor

namespace Go.Proofs.YtjkchhcnochjlaaGreatDoor
open Go.RowKit

theorem itemF_key {k kd v : Int} (h : itemF k kd v = 0) : faultOf k = 0 := by
  unfold itemF at h
  by_cases q : faultOf k = 0
  · exact q
  · rw [if_pos q] at h
    exact h
theorem itemsF_key {F : Nat → Int} {m : Nat} (hm : 0 < m) (h : itemsF F m 0 = 0) : faultOf (F 0) = 0 := by
  by_cases q : itemF (F (0 * 3)) (F (0 * 3 + 1)) (F (0 * 3 + 2)) = 0
  · rw [Nat.zero_mul] at q
    exact itemF_key q
  · exact absurd ((itemsF_bad hm rfl q).symm.trans h) q
/-- What a transaction without a fault keeps. -/
theorem txF_fine {t : Tx} (h : txF t = 0) : (1 ≤ t.m ∧ t.m ≤ 12) ∧ faultOf (t.L 0) = 0 := by
  unfold txF txnF at h
  split at h
  · omega
  split at h
  · omega
  rename_i h1
  split at h
  · rename_i h2; exact absurd h h2
  rename_i h2
  exact ⟨⟨by omega, by omega⟩, itemsF_key (by omega) (Decidable.not_not.1 h2)⟩
/-- What a world without a fault keeps. -/
theorem world_fine {nw nx bd : Int} {nr : Nat} {F : Nat → Int} {n : Nat} {S : Nat → Sto} {nt : Nat} {T : Nat → Tx} (h : worldF nw nx bd nr F n S nt T = 0) :
    groupsF nr F n S = 0 ∧ nt ≤ 16 ∧ ∀ i, i < nt → (1 ≤ (T i).m ∧ (T i).m ≤ 12) ∧ faultOf ((T i).L 0) = 0 := by
  unfold worldF at h
  split at h
  · omega
  split at h
  · rename_i q; exact absurd h q
  split at h
  · rename_i q; exact absurd h q
  rename_i h2
  split at h
  · omega
  rename_i h3
  refine ⟨Decidable.not_not.1 h2, by omega, fun i hi => txF_fine ?_⟩
  have := scan_zero h i hi
  unfold placeF at this
  split at this
  · rename_i q; exact absurd this q
  · rename_i q; exact Decidable.not_not.1 q
theorem DoneAt.get {nr : Nat} {F : Nat → Int} {S : Nat → Sto} (hG : Good nr F) {t : Tx} (hk : faultOf (t.L 0) = 0) : ∃ r, DoneAt nr F S t r := by
  obtain ⟨j, hj⟩ := hG.at (key := t.L 0) (faultOf_zero hk).2
  rcases firstW_or (S j).k (S j).nw (t.L 0) t.s with hno | ⟨i, hi⟩
  · exact ⟨none, j, hj, Or.inr ⟨fun i q => hno i q.1, rfl⟩⟩
  · by_cases e : (S j).k (i * 4 + 3) = 4
    · exact ⟨none, j, hj, Or.inr ⟨fun i' q => q.2 (by rw [firstW_one q.1 hi]; exact e), rfl⟩⟩
    · exact ⟨_, j, hj, Or.inl ⟨i, ⟨hi, e⟩, rfl⟩⟩
theorem res_noneD {w w' : World} {c : Int} {e : Ending} (he : e = .returned (.agg #[.int .i64 c, .slice none 0 0])) (hb : Below w.heap.size w w') : ResRow 2 w c ([] : Prs).length (rowL []) e w' :=
  ⟨none, 0, he, ⟨_, _, rfl, fun q => absurd q (Nat.lt_irrefl 0)⟩, by rw [show ([] : Prs).length * 2 = 0 from rfl]; exact Free.of0 _ _, hb⟩
end Go.Proofs.YtjkchhcnochjlaaGreatDoor

namespace Go.Proofs.YtjkchhcnochjlaaGreatDoor
open Go.RowKit

/-- The commit of place p among the first m of a list: 0 where there is none. -/
def lastC (D : Prs) (p : Int) : Nat → Int
  | 0 => 0
  | m + 1 => if (D.getD m (0, 0)).1 = p then (D.getD m (0, 0)).2 else lastC D p m
/-- When a run counts: 0 where it doesn't. -/
def whenC (D : Prs) (pl ts : Int) : Int := if 0 ≤ pl then lastC D pl D.length else ts
/-- The history of the first k runs. -/
def histL (D : Prs) (R : Nat → Int) : Nat → Prs
  | 0 => []
  | k + 1 => if whenC D (R (k * 10 + 6)) (R (k * 10 + 7)) = 0 then histL D R k else putD (histL D R k) (k, whenC D (R (k * 10 + 6)) (R (k * 10 + 7)))
theorem histL_lt (D : Prs) (R : Nat → Int) : ∀ (k : Nat) (e : Int × Int), e ∈ histL D R k → e.1 < k
  | 0, e, h => absurd h (by simp [histL])
  | k + 1, e, h => by
    rw [histL] at h
    split at h
    · have := histL_lt D R k e h; omega
    · rcases putD_mem h with rfl | q
      · show (k : Int) < _; omega
      · have := histL_lt D R k e q; omega
theorem histL_len (D : Prs) (R : Nat → Int) : ∀ k, (histL D R k).length ≤ k
  | 0 => by simp [histL]
  | k + 1 => by
    have := histL_len D R k
    rw [histL]
    split
    · omega
    · rw [putD_length]; omega
theorem histL_rises (D : Prs) (R : Nat → Int) : ∀ k, RisesD (histL D R k)
  | 0 => List.Pairwise.nil
  | k + 1 => by
    rw [histL]
    split
    · exact histL_rises D R k
    · exact putD_rises (histL_rises D R k) (fun e he => by have := histL_lt D R k e he; show e.1 ≠ (k : Int); omega)
theorem lastC_hit {D : Prs} {p : Int} {m : Nat} (h : (D.getD m (0, 0)).1 = p) : lastC D p (m + 1) = (D.getD m (0, 0)).2 := by rw [lastC, if_pos h]
theorem lastC_miss {D : Prs} {p : Int} {m : Nat} (h : (D.getD m (0, 0)).1 ≠ p) : lastC D p (m + 1) = lastC D p m := by rw [lastC, if_neg h]
/-- What stands while the place is looked for. -/
def InH (w : World) (z k : Nat) (c : Int) (L : Prs) (v : Value) (D : Prs) (vl : Value) (X : World) : Prop := Blk2 X z (.int .i64 k) (.int .i64 c) ∧ Own X w.heap.size 61 2 L.length (rowL L) v ∧ Below w.heap.size w X ∧ Row X 0 2 D.length (rowL D) vl
theorem InH.drewN {w X : World} {z k : Nat} {c : Int} {L : Prs} {v : Value} {D : Prs} {vl : Value} (h : InH w z k c L v D vl X) (q : Nat) : InH w z k c L v D vl (X.drewN q) := ⟨h.1, h.2.1, below_dn h.2.2.1 _, h.2.2.2⟩
theorem Blk2.put1H {x : World} {b : Nat} {a0 a1 : Value} (h : Blk2 x b a0 a1) (u : Value) : Blk2 (x.setCell ⟨b, 1, none⟩ u) b a0 u := by
  obtain ⟨⟨h0, h1⟩, f0, f1⟩ := h
  refine ⟨⟨(World.cell?_setCell_other _ _ _ _ (by simp)).trans h0, World.cell?_setCell_same _ _ _ h1⟩, ?_, ?_⟩
  all_goals rw [World.frozen?_setCell]; assumption
theorem below_dH {B : Nat} {a w : World} (h : Below B a w) (q : Nat) : Below B a (w.drewN q) := ⟨h.os, h.tape, h.output, h.size, h.block⟩
set_option maxRecDepth 100000 in
set_option maxHeartbeats 8000000 in
theorem l15History_is (b : Nat) (nw nx bd : Int) (nr : Nat) (F : Nat → Int) (n : Nat) (S : Nat → Sto) (V : Nat → Nat → Value) (vr vs : Value) (nt : Nat) (T : Nat → Tx) (X : Nat → Value) (vt : Value) (nk : Nat) (R : Nat → Int) (vq : Value) (Q : Nat → Option Int) (D : Prs) (w : World) (h : LiesF w b nw nx bd nr F n S V vr vs nt T X vt nk R vq) (hr : nr ≤ 6) (hn : n = nr) (hs : ∀ i, i < n → (S i).nl ≤ 200 ∧ (S i).nw ≤ 200) (hnt : nt ≤ 16) (hit : ∀ i, i < nt → 1 ≤ (T i).m) (hQ : ∀ i, i < nt → DoneAt nr F S (T i) (Q i)) (hD : donesL Q nt = D) (hnk : nk ≤ 30) (hft : ∀ i, i < nk → 1 ≤ R (i * 10 + 7)) :
    Calls Tryz.prog 14 #[.pointer (some ⟨b, 0, none⟩)] w fun e w' => ∃ ao cp, e = .returned (.slice ao (histL D R nk).length cp) ∧ Own w' w.heap.size 61 2 (histL D R nk).length (rowL (histL D R nk)) (.slice ao (histL D R nk).length cp) ∧ Below w.heap.size w w' := by
  obtain ⟨a0, c0, a1, c1, rfl, rfl⟩ := h.2.1.form
  obtain ⟨a2, c2, rfl⟩ := h.2.2.1.form
  obtain ⟨a3, c3, rfl⟩ := h.2.2.2.form
  have H : Hid (LiesF w b nw nx bd nr F n S V (.slice a0 nr c0) (.slice a1 n c1) nt T X (.slice a2 nt c2) nk R (.slice a3 nk c3)) := h
  have HQ' : Hid (∀ i, i < nt → DoneAt nr F S (T i) (Q i)) := hQ
  have HIT : Hid (∀ i, i < nt → 1 ≤ (T i).m) := hit
  have HS : Hid (∀ i, i < n → (S i).nl ≤ 200 ∧ (S i).nw ≤ 200) := hs
  have HFT : Hid (∀ i, i < nk → 1 ≤ R (i * 10 + 7)) := hft
  have HDD : Hid (donesL Q nt = D ∧ D.length ≤ 16) := ⟨hD, by rw [← hD]; exact Nat.le_trans (donesL_len Q nt) hnt⟩
  have p6 : w.cell? ⟨b, 6, none⟩ = some (.slice a3 nk c3) := h.1.1.2.2.2.2.2.2
  have hb : b < w.heap.size := h.1.lt
  obtain ⟨i0, hi, hz0, hz1, hz2⟩ := info_parts infoz_Done
  clear h hQ hit hs hft hD
  go_enter Tryz.func14, Tryz.ntmps14
  go_wp2_with fail
  refine (l11Committed_is b nw nx bd nr F n S V _ _ nt T X _ Q _ (H.out.later (below_alloc _ _)).world hr hn HS.out hnt HIT.out HQ'.out).mono ?_
  rw [HDD.out.1]
  rintro e w1 ⟨lo, lc, rfl, O1, q1⟩
  have HO1 : Hid (Own w1 w.heap.size 61 2 0 (rowL ([] : Prs)) (.slice (some ⟨w.heap.size, 0, none⟩) 0 0)) := ((OwnM.lit0 w w.heap.size 61 2 rfl).own rfl).later q1
  have HB1 : Hid (Below w.heap.size w w1 ∧ Row w1 0 2 D.length (rowL D) (.slice lo D.length lc)) := ⟨(below_alloc _ _).trans (q1.mono (by simp)), O1.row.1.mono (Nat.zero_le _)⟩
  have hDl : D.length ≤ 16 := HDD.out.2
  clear O1 q1 HDD
  go_wp2
  go_loopw [3, 5] (fun out i wr => ∃ (k : Nat) (ao : Option Addr) (cp : Nat), k ≤ nk ∧ i = .int .i64 k ∧ out = .slice ao (histL D R k).length cp ∧ Hid (Own wr w.heap.size 61 2 (histL D R k).length (rowL (histL D R k)) (.slice ao (histL D R k).length cp)) ∧ Hid (Below w.heap.size w wr ∧ Row wr 0 2 D.length (rowL D) (.slice lo D.length lc))) (fun _ i _ => nk - (intOf i).toNat)
  case atStart => exact ⟨0, _, _, Nat.zero_le _, rfl, rfl, HO1, HB1⟩
  case round =>
    clear HO1 HB1
    obtain ⟨k, ao, cp, hk, rfl, rfl, HO, HB⟩ := hrel
    obtain ⟨wa, rfl⟩ : ∃ x, x = wr := ⟨_, rfl⟩
    have q6 := (HB.out.1.cell (p := ⟨b, 6, none⟩) hb).trans p6
    by_cases hlt : k < nk
    case neg =>
      obtain rfl : k = nk := by omega
      obtain ⟨LN, hLN⟩ : ∃ LN, (histL D R k).length = LN := ⟨_, rfl⟩
      have HLN : Hid ((histL D R k).length = LN) := hLN
      rw [hLN]
      clear hLN
      go_wp2
      refine bodyPost_ret (v := .slice ao LN cp) (by simp [results, Tryz.results14, go_sem]) rfl ?_
      rw [← HLN.out]
      exact ⟨ao, cp, rfl, HO.out, HB.out.1⟩
    obtain ⟨L, hL⟩ : ∃ L, histL D R k = L := ⟨_, rfl⟩
    have hLl : L.length ≤ 30 := by have := histL_len D R k; rw [hL] at this; omega
    have HLT : Hid ((∀ e ∈ L, e.1 < (k : Int)) ∧ histL D R k = L) := ⟨fun e he => histL_lt D R k e (by rw [hL]; exact he), hL⟩
    rw [hL] at HO ⊢
    clear hL
    obtain ⟨gq, oq, haq, _, hgq, _, _, _, _, _, _, y6, y7, _, _⟩ := H.out.2.2.2.at10 hlt
    subst haq
    obtain ⟨pl, hpl⟩ : ∃ x, R (k * 10 + 6) = x := ⟨_, rfl⟩
    obtain ⟨ts, hts⟩ : ∃ x, R (k * 10 + 7) = x := ⟨_, rfl⟩
    rw [hpl] at y6
    rw [hts] at y7
    have ht1 : 1 ≤ ts := by rw [← hts]; exact HFT.out k hlt
    have HPT : Hid (R (k * 10 + 6) = pl ∧ R (k * 10 + 7) = ts) := ⟨hpl, hts⟩
    clear hpl hts
    have z6 := (HB.out.1.cell (p := ⟨gq, oq + k * 10 + 6, none⟩) hgq).trans y6
    have z7 := (HB.out.1.cell (p := ⟨gq, oq + k * 10 + 7, none⟩) hgq).trans y7
    have hgqa : gq < wa.heap.size := Nat.lt_of_lt_of_le hgq HB.out.1.size
    have hba : b < wa.heap.size := Nat.lt_of_lt_of_le hb HB.out.1.size
    by_cases hp : 0 ≤ pl
    case neg =>
      have d1 : decide (0 ≤ pl) = false := decide_eq_false hp
      have d2 : (ts == 0) = false := beq_eq_false_iff_ne.2 (by omega)
      obtain ⟨c, rfl⟩ : ∃ c, c = ts := ⟨_, rfl⟩
      have HNX : Hid (histL D R (k + 1) = putD L (k, c)) := by
        have e1 : whenC D (R (k * 10 + 6)) (R (k * 10 + 7)) = c := by rw [HPT.out.1, HPT.out.2]; unfold whenC; rw [if_neg hp]
        unfold Hid
        rw [histL, e1, if_neg (by omega), HLT.out.2]
      have HI0 : Hid (InH w wa.heap.size k c L (.slice ao L.length cp) D (.slice lo D.length lc) (wa.alloc (.cells #[.int .i64 k, .int .i64 c] 61))) := ⟨Blk2.new wa _ _ _, HO.out.alloc _, HB.out.1.alloc HB.out.1.size _, HB.out.2.later (below_alloc _ _)⟩
      clear HO HB HPT
      go_wp2
      generalize (wa.alloc (.cells #[.int .i64 k, .int .i64 c] 61)) = Xa at HI0 ⊢
      clear q6 z6 z7 d1 d2 hp ht1
      go_loopw [8] (fun i2 wr2 => ∃ q : Nat, i2 = .int .i64 q ∧ q ≤ L.length ∧ Hid (∀ j, j < q → (L.getD j (0, 0)).2 ≤ c) ∧ Hid (InH w wa.heap.size k c L (.slice ao L.length cp) D (.slice lo D.length lc) wr2)) (fun i2 _ => L.length - (intOf i2).toNat)
      case atStart => exact ⟨0, rfl, Nat.zero_le _, fun j hj => absurd hj (Nat.not_lt_zero j), HI0⟩
      case round =>
        clear HI0
        obtain ⟨q, rfl, hq, hP, HI⟩ := hrel
        have hcap : L.length ≤ cp := HI.out.2.1.capD
        obtain ⟨⟨t0, t1⟩, _, _⟩ := HI.out.1
        by_cases hlt2 : q < L.length
        · obtain ⟨g2, o2, hao2, _, hg2, _, z1⟩ := HI.out.2.1.row.1.at2 hlt2
          subst hao2
          rw [rowL_val] at z1
          obtain ⟨y2, N2⟩ : ∃ y, (L.getD q (0, 0)).2 = y := ⟨_, rfl⟩
          rw [N2] at z1
          have HN2 : Hid ((L.getD q (0, 0)).2 = y2) := N2
          clear N2
          by_cases hle : y2 ≤ c
          · have HP : Hid (∀ j, j < q + 1 → (L.getD j (0, 0)).2 ≤ c) := fun j hj => by
              rcases Nat.lt_or_ge j q with r | r
              · exact hP.out j r
              · obtain rfl : j = q := by omega
                rw [HN2.out]
                exact hle
            have d2 : decide (y2 ≤ c) = true := decide_eq_true hle
            clear hP
            go_wp2
            go_quiet (fail)
            go_wp2
            go_roundw
            case rel => exact ⟨q + 1, by go_num, by omega, HP, HI.out.drewN _⟩
            case measure => simp [intOf]; omega
          · have HQ : Hid (q = aheadDN L (k, c)) := place_model HLT.out.1 ⟨hq, hP.out, fun _ => by show ¬ ((L.getD q (0, 0)).2 ≤ c); rw [HN2.out]; exact hle⟩
            have d2 : decide (y2 ≤ c) = false := decide_eq_false hle
            clear hP
            go_wp2
            go_quiet (fail)
            have HI : Hid (InH w wa.heap.size k c L (.slice (some ⟨g2, o2, none⟩) L.length cp) D (.slice lo D.length lc) (wr.drewN nq)) := HI.out.drewN _
            generalize wr.drewN nq = Xr at HI ⊢
            have hzr : wa.heap.size < Xr.heap.size := HI.out.1.lt
            have HRow : Hid (Row Xr 0 2 L.length (rowL L) (.slice (some ⟨g2, o2, none⟩) L.length cp)) := HI.out.2.1.row.1.mono (Nat.zero_le _)
            have HBX : Hid (Below w.heap.size w Xr) := HI.out.2.2.1
            have HRX : Hid (Row Xr 0 2 D.length (rowL D) (.slice lo D.length lc)) := HI.out.2.2.2
            have hqcp : q ≤ cp := by omega
            go_wp2_with (at_builtin; refine wpList_app 61 i0 (.agg #[.int .i64 0, .int .i64 0]) 2 16 rfl _ _ 58 rfl Tryz.underlying58 hi hz0 hz1 hz2 rfl (by omega) (by omega) _ Xr.heap.size 0 [] _ rfl (OwnM.lit0 _ _ _ _ (by simp)) 0 q (rowL L) _ rfl ((HRow.out.head hq cp).alloc _) (by omega) (by simp) ?_; intro ao1 cp1 w2 O2 G2)
            rw [Nat.zero_add, List.nil_append] at O2
            have D2 : Below Xr.heap.size Xr w2 := (below_alloc _ _).grown G2 (by simp) (fun r e => by cases e; exact Nat.le_refl _)
            have O2' : Hid (OwnM w2 Xr.heap.size 61 2 (.slice ao1 q cp1) q (nums (rowL L) (q * 2))) := O2
            clear O2 G2
            refine wp_region_held_drew (S := fun Y : World => Below Xr.heap.size Xr Y) (by kernel_rfl) D2.drew (fun hS => ?_)
            refine tkH 0 ?_ hS (fun wx hx => ?_) ?_; rotate_left
            · have hx0 := (hx.cell (p := ⟨wa.heap.size, 0, none⟩) hzr).trans HI.out.1.1.1; have hx1 := (hx.cell (p := ⟨wa.heap.size, 1, none⟩) hzr).trans HI.out.1.1.2; go_simp; try with_reducible rfl
            refine tkH 1 ?_ hS (fun wx hx => ?_) ?_; rotate_left
            · have hx0 := (hx.cell (p := ⟨wa.heap.size, 0, none⟩) hzr).trans HI.out.1.1.1; have hx1 := (hx.cell (p := ⟨wa.heap.size, 1, none⟩) hzr).trans HI.out.1.1.2; go_simp; try with_reducible rfl
            refine tkH 4 ?_ hS (fun wx hx => ?_) ?_; rotate_left
            · have hx0 := (hx.cell (p := ⟨wa.heap.size, 0, none⟩) hzr).trans HI.out.1.1.1; have hx1 := (hx.cell (p := ⟨wa.heap.size, 1, none⟩) hzr).trans HI.out.1.1.2; go_simp; try with_reducible rfl
            refine tkH 5 ?_ hS (fun wx hx => ?_) ?_; rotate_left
            · have hx0 := (hx.cell (p := ⟨wa.heap.size, 0, none⟩) hzr).trans HI.out.1.1.1; have hx1 := (hx.cell (p := ⟨wa.heap.size, 1, none⟩) hzr).trans HI.out.1.1.2; go_simp; try with_reducible rfl
            refine tkH 6 ?_ hS (fun wx hx => ?_) ?_; rotate_left
            · have hx0 := (hx.cell (p := ⟨wa.heap.size, 0, none⟩) hzr).trans HI.out.1.1.1; have hx1 := (hx.cell (p := ⟨wa.heap.size, 1, none⟩) hzr).trans HI.out.1.1.2; go_simp; try with_reducible rfl
            try simp only [Act.put, List.getElem_toArray, List.getElem_cons_zero, List.getElem_cons_succ, List.setIfInBounds_toArray, List.set_cons_succ, List.set_cons_zero]
            refine rdH 2 (fun K hK => ?_)
            go_simp
            have S3 : Below Xr.heap.size Xr (w2.drew.alloc (.cells #[.int .i64 k, .int .i64 c] 61)) := hS.alloc hS.size _
            have O3 : Hid (OwnM (w2.drew.alloc (.cells #[.int .i64 k, .int .i64 c] 61)) Xr.heap.size 61 2 (.slice ao1 q cp1) q (nums (rowL L) (q * 2))) := O2'.out.later (below_alloc w2 _).drew
            have R3 : Hid (Row (w2.drew.alloc (.cells #[.int .i64 k, .int .i64 c] 61)) 0 2 1 (fun p => [(k : Int), c].getD p 0) (.slice (some ⟨w2.heap.size, 0, none⟩) 1 1)) := row_litD w2.drew k c 61
            refine hK.out _ _ S3 (fun hS => ?_)
            clear hK K S3
            refine rdH 3 (fun K hK => ?_)
            refine step_app 61 i0 (.agg #[.int .i64 0, .int .i64 0]) 2 16 (by rfl) _ _ 58 (by rfl) Tryz.underlying58 hi hz0 hz1 hz2 rfl (by omega) (by omega) _ Xr.heap.size q (nums (rowL L) (q * 2)) (.slice ao1 q cp1) (by rfl) O3.out 0 1 (fun p => [(k : Int), c].getD p 0) (.slice (some ⟨w2.heap.size, 0, none⟩) 1 1) (by rfl) R3.out (by omega) hS.size ?_
            intro ao3 cp3 w4 O4 G4
            have S4 : Below Xr.heap.size Xr w4 := hS.grown G4 hS.size (fun r e => (O3.out.block r e).1)
            have O4' : Hid (OwnM w4 Xr.heap.size 61 2 (.slice ao3 (q + 1) cp3) (q + 1) (nums (rowL L) (q * 2) ++ [(k : Int), c])) := O4
            clear O4 G4 O3 R3 O2'
            refine hK.out _ _ S4 (fun hS => ?_)
            clear hK K S4
            refine rdH 7 (fun K hK => ?_)
            refine step_app 61 i0 (.agg #[.int .i64 0, .int .i64 0]) 2 16 (by rfl) _ _ 58 (by rfl) Tryz.underlying58 hi hz0 hz1 hz2 rfl (by omega) (by omega) _ Xr.heap.size (q + 1) (nums (rowL L) (q * 2) ++ [(k : Int), c]) (.slice ao3 (q + 1) cp3) (by rfl) O4'.out 0 (L.length - q) (fun p => rowL L (q * 2 + p)) (.slice (if cp = q then some ⟨g2, o2, none⟩ else some ⟨g2, o2 + q * 2, none⟩) (L.length - q) (cp - q)) (by rfl) ((HRow.out.later hS).tailS hlt2 hcap) (by omega) hS.size ?_
            intro ao5 cp5 w6 O6 G6
            have S6 : Below Xr.heap.size Xr w6 := hS.grown G6 hS.size (fun r e => (O4'.out.block r e).1)
            have HO6 : Hid (Own w6 w.heap.size 61 2 (histL D R (k + 1)).length (rowL (histL D R (k + 1))) (.slice ao5 (histL D R (k + 1)).length cp5)) := by
              have e1 : q + 1 + (L.length - q) = L.length + 1 := by omega
              rw [e1] at O6
              unfold Hid
              rw [HNX.out, putD_length]
              refine own_eqP ((OwnM.own O6 (by rw [List.length_append, List.length_append, nums_length, nums_length]; simp; omega)).mono HBX.out.size) (fun p hp => ?_)
              unfold putD
              rw [← HQ.out]
              exact rowL_insert hq hp
            have e8 : Hid (q + 1 + (L.length - q) = (histL D R (k + 1)).length) := by unfold Hid; rw [HNX.out, putD_length]; omega
            clear O6 G6 O4'
            refine hK.out _ _ S6 (fun hS => ?_)
            clear hK K S6
            refine tkH 8 ?_ hS (fun wx hx => ?_) ?_; rotate_left
            · have hx0 := (hx.cell (p := ⟨wa.heap.size, 0, none⟩) hzr).trans HI.out.1.1.1; have hx1 := (hx.cell (p := ⟨wa.heap.size, 1, none⟩) hzr).trans HI.out.1.1.2; go_simp; try with_reducible rfl
            refine wpAnyH_done (by kernel_rfl) ?_ _
            go_simp
            go_wp2
            all_goals
              go_roundw
              case rel => exact ⟨k + 1, ao5, cp5, by omega, by go_num, by rw [e8.out], HO6, HBX.out.trans (hS.mono HBX.out.size), HRX.out.later hS⟩
              case measure => simp [intOf]; omega
        · have HQ : Hid (q = aheadDN L (k, c)) := place_model HLT.out.1 ⟨hq, hP.out, fun r => absurd r hlt2⟩
          clear hP
          go_wp2
          go_quiet (fail)
          have HI : Hid (InH w wa.heap.size k c L (.slice ao L.length cp) D (.slice lo D.length lc) (wr.drewN nq)) := HI.out.drewN _
          generalize wr.drewN nq = Xr at HI ⊢
          have hzr : wa.heap.size < Xr.heap.size := HI.out.1.lt
          have HRow : Hid (Row Xr 0 2 L.length (rowL L) (.slice ao L.length cp)) := HI.out.2.1.row.1.mono (Nat.zero_le _)
          have HBX : Hid (Below w.heap.size w Xr) := HI.out.2.2.1
          have HRX : Hid (Row Xr 0 2 D.length (rowL D) (.slice lo D.length lc)) := HI.out.2.2.2
          have hqcp : q ≤ cp := by omega
          go_wp2_with (at_builtin; refine wpList_app 61 i0 (.agg #[.int .i64 0, .int .i64 0]) 2 16 rfl _ _ 58 rfl Tryz.underlying58 hi hz0 hz1 hz2 rfl (by omega) (by omega) _ Xr.heap.size 0 [] _ rfl (OwnM.lit0 _ _ _ _ (by simp)) 0 q (rowL L) _ rfl ((HRow.out.head hq cp).alloc _) (by omega) (by simp) ?_; intro ao1 cp1 w2 O2 G2)
          rw [Nat.zero_add, List.nil_append] at O2
          have D2 : Below Xr.heap.size Xr w2 := (below_alloc _ _).grown G2 (by simp) (fun r e => by cases e; exact Nat.le_refl _)
          have O2' : Hid (OwnM w2 Xr.heap.size 61 2 (.slice ao1 q cp1) q (nums (rowL L) (q * 2))) := O2
          clear O2 G2
          refine wp_region_held_drew (S := fun Y : World => Below Xr.heap.size Xr Y) (by kernel_rfl) D2.drew (fun hS => ?_)
          refine tkH 0 ?_ hS (fun wx hx => ?_) ?_; rotate_left
          · have hx0 := (hx.cell (p := ⟨wa.heap.size, 0, none⟩) hzr).trans HI.out.1.1.1; have hx1 := (hx.cell (p := ⟨wa.heap.size, 1, none⟩) hzr).trans HI.out.1.1.2; go_simp; try with_reducible rfl
          refine tkH 1 ?_ hS (fun wx hx => ?_) ?_; rotate_left
          · have hx0 := (hx.cell (p := ⟨wa.heap.size, 0, none⟩) hzr).trans HI.out.1.1.1; have hx1 := (hx.cell (p := ⟨wa.heap.size, 1, none⟩) hzr).trans HI.out.1.1.2; go_simp; try with_reducible rfl
          refine tkH 4 ?_ hS (fun wx hx => ?_) ?_; rotate_left
          · have hx0 := (hx.cell (p := ⟨wa.heap.size, 0, none⟩) hzr).trans HI.out.1.1.1; have hx1 := (hx.cell (p := ⟨wa.heap.size, 1, none⟩) hzr).trans HI.out.1.1.2; go_simp; try with_reducible rfl
          refine tkH 5 ?_ hS (fun wx hx => ?_) ?_; rotate_left
          · have hx0 := (hx.cell (p := ⟨wa.heap.size, 0, none⟩) hzr).trans HI.out.1.1.1; have hx1 := (hx.cell (p := ⟨wa.heap.size, 1, none⟩) hzr).trans HI.out.1.1.2; go_simp; try with_reducible rfl
          refine tkH 6 ?_ hS (fun wx hx => ?_) ?_; rotate_left
          · have hx0 := (hx.cell (p := ⟨wa.heap.size, 0, none⟩) hzr).trans HI.out.1.1.1; have hx1 := (hx.cell (p := ⟨wa.heap.size, 1, none⟩) hzr).trans HI.out.1.1.2; go_simp; try with_reducible rfl
          try simp only [Act.put, List.getElem_toArray, List.getElem_cons_zero, List.getElem_cons_succ, List.setIfInBounds_toArray, List.set_cons_succ, List.set_cons_zero]
          refine rdH 2 (fun K hK => ?_)
          go_simp
          have S3 : Below Xr.heap.size Xr (w2.drew.alloc (.cells #[.int .i64 k, .int .i64 c] 61)) := hS.alloc hS.size _
          have O3 : Hid (OwnM (w2.drew.alloc (.cells #[.int .i64 k, .int .i64 c] 61)) Xr.heap.size 61 2 (.slice ao1 q cp1) q (nums (rowL L) (q * 2))) := O2'.out.later (below_alloc w2 _).drew
          have R3 : Hid (Row (w2.drew.alloc (.cells #[.int .i64 k, .int .i64 c] 61)) 0 2 1 (fun p => [(k : Int), c].getD p 0) (.slice (some ⟨w2.heap.size, 0, none⟩) 1 1)) := row_litD w2.drew k c 61
          refine hK.out _ _ S3 (fun hS => ?_)
          clear hK K S3
          refine rdH 3 (fun K hK => ?_)
          refine step_app 61 i0 (.agg #[.int .i64 0, .int .i64 0]) 2 16 (by rfl) _ _ 58 (by rfl) Tryz.underlying58 hi hz0 hz1 hz2 rfl (by omega) (by omega) _ Xr.heap.size q (nums (rowL L) (q * 2)) (.slice ao1 q cp1) (by rfl) O3.out 0 1 (fun p => [(k : Int), c].getD p 0) (.slice (some ⟨w2.heap.size, 0, none⟩) 1 1) (by rfl) R3.out (by omega) hS.size ?_
          intro ao3 cp3 w4 O4 G4
          have S4 : Below Xr.heap.size Xr w4 := hS.grown G4 hS.size (fun r e => (O3.out.block r e).1)
          have O4' : Hid (OwnM w4 Xr.heap.size 61 2 (.slice ao3 (q + 1) cp3) (q + 1) (nums (rowL L) (q * 2) ++ [(k : Int), c])) := O4
          clear O4 G4 O3 R3 O2'
          refine hK.out _ _ S4 (fun hS => ?_)
          clear hK K S4
          refine rdH 7 (fun K hK => ?_)
          refine step_app 61 i0 (.agg #[.int .i64 0, .int .i64 0]) 2 16 (by rfl) _ _ 58 (by rfl) Tryz.underlying58 hi hz0 hz1 hz2 rfl (by omega) (by omega) _ Xr.heap.size (q + 1) (nums (rowL L) (q * 2) ++ [(k : Int), c]) (.slice ao3 (q + 1) cp3) (by rfl) O4'.out 0 (L.length - q) (fun p => rowL L (q * 2 + p)) (.slice (if cp = q then ao else Option.map (fun x => x.add (q * 2)) ao) (L.length - q) (cp - q)) (by rfl) (Row.over _ _ _ _ _ _ _ _ hlt2) (by omega) hS.size ?_
          intro ao5 cp5 w6 O6 G6
          have S6 : Below Xr.heap.size Xr w6 := hS.grown G6 hS.size (fun r e => (O4'.out.block r e).1)
          have HO6 : Hid (Own w6 w.heap.size 61 2 (histL D R (k + 1)).length (rowL (histL D R (k + 1))) (.slice ao5 (histL D R (k + 1)).length cp5)) := by
            have e1 : q + 1 + (L.length - q) = L.length + 1 := by omega
            rw [e1] at O6
            unfold Hid
            rw [HNX.out, putD_length]
            refine own_eqP ((OwnM.own O6 (by rw [List.length_append, List.length_append, nums_length, nums_length]; simp; omega)).mono HBX.out.size) (fun p hp => ?_)
            unfold putD
            rw [← HQ.out]
            exact rowL_insert hq hp
          have e8 : Hid (q + 1 + (L.length - q) = (histL D R (k + 1)).length) := by unfold Hid; rw [HNX.out, putD_length]; omega
          clear O6 G6 O4'
          refine hK.out _ _ S6 (fun hS => ?_)
          clear hK K S6
          refine tkH 8 ?_ hS (fun wx hx => ?_) ?_; rotate_left
          · have hx0 := (hx.cell (p := ⟨wa.heap.size, 0, none⟩) hzr).trans HI.out.1.1.1; have hx1 := (hx.cell (p := ⟨wa.heap.size, 1, none⟩) hzr).trans HI.out.1.1.2; go_simp; try with_reducible rfl
          refine wpAnyH_done (by kernel_rfl) ?_ _
          go_simp
          go_wp2
          all_goals
            go_roundw
            case rel => exact ⟨k + 1, ao5, cp5, by omega, by go_num, by rw [e8.out], HO6, HBX.out.trans (hS.mono HBX.out.size), HRX.out.later hS⟩
            case measure => simp [intOf]; omega
    have d1 : decide (0 ≤ pl) = true := decide_eq_true hp
    have HA0 : Hid (Blk2 (wa.alloc (.cells #[.int .i64 k, .int .i64 0] 61)) wa.heap.size (.int .i64 k) (.int .i64 (lastC D pl 0)) ∧ Below wa.heap.size wa (wa.alloc (.cells #[.int .i64 k, .int .i64 0] 61))) := ⟨Blk2.new wa _ _ _, below_alloc _ _⟩
    go_wp2
    generalize (wa.alloc (.cells #[.int .i64 k, .int .i64 0] 61)) = Xa at HA0 ⊢
    clear z7 d1
    go_loopw [7] (fun i2 wx => ∃ m : Nat, i2 = .int .i64 m ∧ m ≤ D.length ∧ Hid (Blk2 wx wa.heap.size (.int .i64 k) (.int .i64 (lastC D pl m)) ∧ Below wa.heap.size wa wx)) (fun i2 _ => D.length - (intOf i2).toNat)
    case atStart => exact ⟨0, rfl, Nat.zero_le _, HA0⟩
    case round =>
      clear HA0
      obtain ⟨m, rfl, hm, HA⟩ := hrel
      have r6 := (HA.out.2.cell (p := ⟨b, 6, none⟩) hba).trans q6
      have v6 := (HA.out.2.cell (p := ⟨gq, oq + k * 10 + 6, none⟩) hgqa).trans z6
      by_cases hlm : m < D.length
      · obtain ⟨g3, o3, hlo, _, hg3, u0, u1⟩ := (HB.out.2.later HA.out.2).at2 hlm
        subst hlo
        rw [rowL_key] at u0
        rw [rowL_val] at u1
        obtain ⟨e0, he0⟩ : ∃ y, (D.getD m (0, 0)).1 = y := ⟨_, rfl⟩
        obtain ⟨e1, he1⟩ : ∃ y, (D.getD m (0, 0)).2 = y := ⟨_, rfl⟩
        rw [he0] at u0
        rw [he1] at u1
        have HE : Hid ((D.getD m (0, 0)).1 = e0 ∧ (D.getD m (0, 0)).2 = e1) := ⟨he0, he1⟩
        clear he0 he1
        obtain ⟨⟨t0, t1⟩, t2, t3⟩ := HA.out.1
        by_cases he : e0 = pl
        · have d3 : (e0 == pl) = true := beq_iff_eq.2 he
          have HN : Hid (lastC D pl (m + 1) = e1) := by
            unfold Hid
            rw [lastC_hit (by rw [HE.out.1]; exact he), HE.out.2]
          clear he
          go_wp2
          go_quiet (fail)
          go_wp2
          go_roundw
          case rel => exact ⟨m + 1, by go_num, by omega, by rw [HN.out]; exact ⟨Blk2.put1H (HA.out.1.later (below_dH (Below.refl _ _) _)) _, (below_dH HA.out.2 _).setCell (Nat.le_refl _) _⟩⟩
          case measure => simp [intOf]; omega
        · have d3 : (e0 == pl) = false := beq_eq_false_iff_ne.2 he
          have HN : Hid (lastC D pl (m + 1) = lastC D pl m) := lastC_miss (by rw [HE.out.1]; exact he)
          clear he
          go_wp2
          go_quiet (fail)
          go_wp2
          go_roundw
          case rel => exact ⟨m + 1, by go_num, by omega, by rw [HN.out]; exact ⟨HA.out.1.later (below_dH (Below.refl _ _) _), below_dH HA.out.2 _⟩⟩
          case measure => simp [intOf]; omega
      · obtain rfl : m = D.length := by omega
        obtain ⟨c, hc⟩ : ∃ c, lastC D pl D.length = c := ⟨_, rfl⟩
        have HC : Hid (whenC D (R (k * 10 + 6)) (R (k * 10 + 7)) = c) := by
          unfold Hid
          rw [HPT.out.1, HPT.out.2]
          unfold whenC
          rw [if_pos hp, hc]
        rw [hc] at HA
        clear hc
        obtain ⟨⟨t0, t1⟩, t2, t3⟩ := HA.out.1
        by_cases hz : c = 0
        · subst hz
          have HNX : Hid (histL D R (k + 1) = L) := by unfold Hid; rw [histL, HC.out, if_pos rfl, HLT.out.2]
          clear HC HPT
          go_wp2
          go_roundw
          case rel => exact ⟨k + 1, ao, cp, by omega, by go_num, by rw [HNX.out], by rw [HNX.out]; exact HO.out.later HA.out.2, HB.out.1.trans (HA.out.2.mono HB.out.1.size), HB.out.2.later HA.out.2⟩
          case measure => simp [intOf]; omega
        have d4 : (c == 0) = false := beq_eq_false_iff_ne.2 hz
        have HNX : Hid (histL D R (k + 1) = putD L (k, c)) := by unfold Hid; rw [histL, HC.out, if_neg hz, HLT.out.2]
        obtain ⟨Xa, rfl⟩ : ∃ x, x = wr := ⟨_, rfl⟩
        have HI0 : Hid (InH w wa.heap.size k c L (.slice ao L.length cp) D (.slice lo D.length lc) Xa) := ⟨HA.out.1, HO.out.later HA.out.2, HB.out.1.trans (HA.out.2.mono HB.out.1.size), HB.out.2.later HA.out.2⟩
        clear HO HB HPT HC
        go_wp2
        clear q6 z6 r6 v6 d4 hp ht1 t0 t1 t2 t3 HA hz
        go_loopw [8] (fun i2 wr2 => ∃ q : Nat, i2 = .int .i64 q ∧ q ≤ L.length ∧ Hid (∀ j, j < q → (L.getD j (0, 0)).2 ≤ c) ∧ Hid (InH w wa.heap.size k c L (.slice ao L.length cp) D (.slice lo D.length lc) wr2)) (fun i2 _ => L.length - (intOf i2).toNat)
        case atStart => exact ⟨0, rfl, Nat.zero_le _, fun j hj => absurd hj (Nat.not_lt_zero j), HI0⟩
        case round =>
          clear HI0
          obtain ⟨q, rfl, hq, hP, HI⟩ := hrel
          have hcap : L.length ≤ cp := HI.out.2.1.capD
          obtain ⟨⟨t0, t1⟩, _, _⟩ := HI.out.1
          by_cases hlt2 : q < L.length
          · obtain ⟨g2, o2, hao2, _, hg2, _, z1⟩ := HI.out.2.1.row.1.at2 hlt2
            subst hao2
            rw [rowL_val] at z1
            obtain ⟨y2, N2⟩ : ∃ y, (L.getD q (0, 0)).2 = y := ⟨_, rfl⟩
            rw [N2] at z1
            have HN2 : Hid ((L.getD q (0, 0)).2 = y2) := N2
            clear N2
            by_cases hle : y2 ≤ c
            · have HP : Hid (∀ j, j < q + 1 → (L.getD j (0, 0)).2 ≤ c) := fun j hj => by
                rcases Nat.lt_or_ge j q with r | r
                · exact hP.out j r
                · obtain rfl : j = q := by omega
                  rw [HN2.out]
                  exact hle
              have d2 : decide (y2 ≤ c) = true := decide_eq_true hle
              clear hP
              go_wp2
              go_quiet (fail)
              go_wp2
              go_roundw
              case rel => exact ⟨q + 1, by go_num, by omega, HP, HI.out.drewN _⟩
              case measure => simp [intOf]; omega
            · have HQ : Hid (q = aheadDN L (k, c)) := place_model HLT.out.1 ⟨hq, hP.out, fun _ => by show ¬ ((L.getD q (0, 0)).2 ≤ c); rw [HN2.out]; exact hle⟩
              have d2 : decide (y2 ≤ c) = false := decide_eq_false hle
              clear hP
              go_wp2
              go_quiet (fail)
              have HI : Hid (InH w wa.heap.size k c L (.slice (some ⟨g2, o2, none⟩) L.length cp) D (.slice lo D.length lc) (wr.drewN nq)) := HI.out.drewN _
              generalize wr.drewN nq = Xr at HI ⊢
              have hzr : wa.heap.size < Xr.heap.size := HI.out.1.lt
              have HRow : Hid (Row Xr 0 2 L.length (rowL L) (.slice (some ⟨g2, o2, none⟩) L.length cp)) := HI.out.2.1.row.1.mono (Nat.zero_le _)
              have HBX : Hid (Below w.heap.size w Xr) := HI.out.2.2.1
              have HRX : Hid (Row Xr 0 2 D.length (rowL D) (.slice lo D.length lc)) := HI.out.2.2.2
              have hqcp : q ≤ cp := by omega
              go_wp2_with (at_builtin; refine wpList_app 61 i0 (.agg #[.int .i64 0, .int .i64 0]) 2 16 rfl _ _ 58 rfl Tryz.underlying58 hi hz0 hz1 hz2 rfl (by omega) (by omega) _ Xr.heap.size 0 [] _ rfl (OwnM.lit0 _ _ _ _ (by simp)) 0 q (rowL L) _ rfl ((HRow.out.head hq cp).alloc _) (by omega) (by simp) ?_; intro ao1 cp1 w2 O2 G2)
              rw [Nat.zero_add, List.nil_append] at O2
              have D2 : Below Xr.heap.size Xr w2 := (below_alloc _ _).grown G2 (by simp) (fun r e => by cases e; exact Nat.le_refl _)
              have O2' : Hid (OwnM w2 Xr.heap.size 61 2 (.slice ao1 q cp1) q (nums (rowL L) (q * 2))) := O2
              clear O2 G2
              refine wp_region_held_drew (S := fun Y : World => Below Xr.heap.size Xr Y) (by kernel_rfl) D2.drew (fun hS => ?_)
              refine tkH 0 ?_ hS (fun wx hx => ?_) ?_; rotate_left
              · have hx0 := (hx.cell (p := ⟨wa.heap.size, 0, none⟩) hzr).trans HI.out.1.1.1; have hx1 := (hx.cell (p := ⟨wa.heap.size, 1, none⟩) hzr).trans HI.out.1.1.2; go_simp; try with_reducible rfl
              refine tkH 1 ?_ hS (fun wx hx => ?_) ?_; rotate_left
              · have hx0 := (hx.cell (p := ⟨wa.heap.size, 0, none⟩) hzr).trans HI.out.1.1.1; have hx1 := (hx.cell (p := ⟨wa.heap.size, 1, none⟩) hzr).trans HI.out.1.1.2; go_simp; try with_reducible rfl
              refine tkH 4 ?_ hS (fun wx hx => ?_) ?_; rotate_left
              · have hx0 := (hx.cell (p := ⟨wa.heap.size, 0, none⟩) hzr).trans HI.out.1.1.1; have hx1 := (hx.cell (p := ⟨wa.heap.size, 1, none⟩) hzr).trans HI.out.1.1.2; go_simp; try with_reducible rfl
              refine tkH 5 ?_ hS (fun wx hx => ?_) ?_; rotate_left
              · have hx0 := (hx.cell (p := ⟨wa.heap.size, 0, none⟩) hzr).trans HI.out.1.1.1; have hx1 := (hx.cell (p := ⟨wa.heap.size, 1, none⟩) hzr).trans HI.out.1.1.2; go_simp; try with_reducible rfl
              refine tkH 6 ?_ hS (fun wx hx => ?_) ?_; rotate_left
              · have hx0 := (hx.cell (p := ⟨wa.heap.size, 0, none⟩) hzr).trans HI.out.1.1.1; have hx1 := (hx.cell (p := ⟨wa.heap.size, 1, none⟩) hzr).trans HI.out.1.1.2; go_simp; try with_reducible rfl
              try simp only [Act.put, List.getElem_toArray, List.getElem_cons_zero, List.getElem_cons_succ, List.setIfInBounds_toArray, List.set_cons_succ, List.set_cons_zero]
              refine rdH 2 (fun K hK => ?_)
              go_simp
              have S3 : Below Xr.heap.size Xr (w2.drew.alloc (.cells #[.int .i64 k, .int .i64 c] 61)) := hS.alloc hS.size _
              have O3 : Hid (OwnM (w2.drew.alloc (.cells #[.int .i64 k, .int .i64 c] 61)) Xr.heap.size 61 2 (.slice ao1 q cp1) q (nums (rowL L) (q * 2))) := O2'.out.later (below_alloc w2 _).drew
              have R3 : Hid (Row (w2.drew.alloc (.cells #[.int .i64 k, .int .i64 c] 61)) 0 2 1 (fun p => [(k : Int), c].getD p 0) (.slice (some ⟨w2.heap.size, 0, none⟩) 1 1)) := row_litD w2.drew k c 61
              refine hK.out _ _ S3 (fun hS => ?_)
              clear hK K S3
              refine rdH 3 (fun K hK => ?_)
              refine step_app 61 i0 (.agg #[.int .i64 0, .int .i64 0]) 2 16 (by rfl) _ _ 58 (by rfl) Tryz.underlying58 hi hz0 hz1 hz2 rfl (by omega) (by omega) _ Xr.heap.size q (nums (rowL L) (q * 2)) (.slice ao1 q cp1) (by rfl) O3.out 0 1 (fun p => [(k : Int), c].getD p 0) (.slice (some ⟨w2.heap.size, 0, none⟩) 1 1) (by rfl) R3.out (by omega) hS.size ?_
              intro ao3 cp3 w4 O4 G4
              have S4 : Below Xr.heap.size Xr w4 := hS.grown G4 hS.size (fun r e => (O3.out.block r e).1)
              have O4' : Hid (OwnM w4 Xr.heap.size 61 2 (.slice ao3 (q + 1) cp3) (q + 1) (nums (rowL L) (q * 2) ++ [(k : Int), c])) := O4
              clear O4 G4 O3 R3 O2'
              refine hK.out _ _ S4 (fun hS => ?_)
              clear hK K S4
              refine rdH 7 (fun K hK => ?_)
              refine step_app 61 i0 (.agg #[.int .i64 0, .int .i64 0]) 2 16 (by rfl) _ _ 58 (by rfl) Tryz.underlying58 hi hz0 hz1 hz2 rfl (by omega) (by omega) _ Xr.heap.size (q + 1) (nums (rowL L) (q * 2) ++ [(k : Int), c]) (.slice ao3 (q + 1) cp3) (by rfl) O4'.out 0 (L.length - q) (fun p => rowL L (q * 2 + p)) (.slice (if cp = q then some ⟨g2, o2, none⟩ else some ⟨g2, o2 + q * 2, none⟩) (L.length - q) (cp - q)) (by rfl) ((HRow.out.later hS).tailS hlt2 hcap) (by omega) hS.size ?_
              intro ao5 cp5 w6 O6 G6
              have S6 : Below Xr.heap.size Xr w6 := hS.grown G6 hS.size (fun r e => (O4'.out.block r e).1)
              have HO6 : Hid (Own w6 w.heap.size 61 2 (histL D R (k + 1)).length (rowL (histL D R (k + 1))) (.slice ao5 (histL D R (k + 1)).length cp5)) := by
                have e1 : q + 1 + (L.length - q) = L.length + 1 := by omega
                rw [e1] at O6
                unfold Hid
                rw [HNX.out, putD_length]
                refine own_eqP ((OwnM.own O6 (by rw [List.length_append, List.length_append, nums_length, nums_length]; simp; omega)).mono HBX.out.size) (fun p hp => ?_)
                unfold putD
                rw [← HQ.out]
                exact rowL_insert hq hp
              have e8 : Hid (q + 1 + (L.length - q) = (histL D R (k + 1)).length) := by unfold Hid; rw [HNX.out, putD_length]; omega
              clear O6 G6 O4'
              refine hK.out _ _ S6 (fun hS => ?_)
              clear hK K S6
              refine tkH 8 ?_ hS (fun wx hx => ?_) ?_; rotate_left
              · have hx0 := (hx.cell (p := ⟨wa.heap.size, 0, none⟩) hzr).trans HI.out.1.1.1; have hx1 := (hx.cell (p := ⟨wa.heap.size, 1, none⟩) hzr).trans HI.out.1.1.2; go_simp; try with_reducible rfl
              refine wpAnyH_done (by kernel_rfl) ?_ _
              go_simp
              go_wp2
              all_goals
                go_roundw
                case rel => exact ⟨k + 1, ao5, cp5, by omega, by go_num, by rw [e8.out], HO6, HBX.out.trans (hS.mono HBX.out.size), HRX.out.later hS⟩
                case measure => simp [intOf]; omega
          · have HQ : Hid (q = aheadDN L (k, c)) := place_model HLT.out.1 ⟨hq, hP.out, fun r => absurd r hlt2⟩
            clear hP
            go_wp2
            go_quiet (fail)
            have HI : Hid (InH w wa.heap.size k c L (.slice ao L.length cp) D (.slice lo D.length lc) (wr.drewN nq)) := HI.out.drewN _
            generalize wr.drewN nq = Xr at HI ⊢
            have hzr : wa.heap.size < Xr.heap.size := HI.out.1.lt
            have HRow : Hid (Row Xr 0 2 L.length (rowL L) (.slice ao L.length cp)) := HI.out.2.1.row.1.mono (Nat.zero_le _)
            have HBX : Hid (Below w.heap.size w Xr) := HI.out.2.2.1
            have HRX : Hid (Row Xr 0 2 D.length (rowL D) (.slice lo D.length lc)) := HI.out.2.2.2
            have hqcp : q ≤ cp := by omega
            go_wp2_with (at_builtin; refine wpList_app 61 i0 (.agg #[.int .i64 0, .int .i64 0]) 2 16 rfl _ _ 58 rfl Tryz.underlying58 hi hz0 hz1 hz2 rfl (by omega) (by omega) _ Xr.heap.size 0 [] _ rfl (OwnM.lit0 _ _ _ _ (by simp)) 0 q (rowL L) _ rfl ((HRow.out.head hq cp).alloc _) (by omega) (by simp) ?_; intro ao1 cp1 w2 O2 G2)
            rw [Nat.zero_add, List.nil_append] at O2
            have D2 : Below Xr.heap.size Xr w2 := (below_alloc _ _).grown G2 (by simp) (fun r e => by cases e; exact Nat.le_refl _)
            have O2' : Hid (OwnM w2 Xr.heap.size 61 2 (.slice ao1 q cp1) q (nums (rowL L) (q * 2))) := O2
            clear O2 G2
            refine wp_region_held_drew (S := fun Y : World => Below Xr.heap.size Xr Y) (by kernel_rfl) D2.drew (fun hS => ?_)
            refine tkH 0 ?_ hS (fun wx hx => ?_) ?_; rotate_left
            · have hx0 := (hx.cell (p := ⟨wa.heap.size, 0, none⟩) hzr).trans HI.out.1.1.1; have hx1 := (hx.cell (p := ⟨wa.heap.size, 1, none⟩) hzr).trans HI.out.1.1.2; go_simp; try with_reducible rfl
            refine tkH 1 ?_ hS (fun wx hx => ?_) ?_; rotate_left
            · have hx0 := (hx.cell (p := ⟨wa.heap.size, 0, none⟩) hzr).trans HI.out.1.1.1; have hx1 := (hx.cell (p := ⟨wa.heap.size, 1, none⟩) hzr).trans HI.out.1.1.2; go_simp; try with_reducible rfl
            refine tkH 4 ?_ hS (fun wx hx => ?_) ?_; rotate_left
            · have hx0 := (hx.cell (p := ⟨wa.heap.size, 0, none⟩) hzr).trans HI.out.1.1.1; have hx1 := (hx.cell (p := ⟨wa.heap.size, 1, none⟩) hzr).trans HI.out.1.1.2; go_simp; try with_reducible rfl
            refine tkH 5 ?_ hS (fun wx hx => ?_) ?_; rotate_left
            · have hx0 := (hx.cell (p := ⟨wa.heap.size, 0, none⟩) hzr).trans HI.out.1.1.1; have hx1 := (hx.cell (p := ⟨wa.heap.size, 1, none⟩) hzr).trans HI.out.1.1.2; go_simp; try with_reducible rfl
            refine tkH 6 ?_ hS (fun wx hx => ?_) ?_; rotate_left
            · have hx0 := (hx.cell (p := ⟨wa.heap.size, 0, none⟩) hzr).trans HI.out.1.1.1; have hx1 := (hx.cell (p := ⟨wa.heap.size, 1, none⟩) hzr).trans HI.out.1.1.2; go_simp; try with_reducible rfl
            try simp only [Act.put, List.getElem_toArray, List.getElem_cons_zero, List.getElem_cons_succ, List.setIfInBounds_toArray, List.set_cons_succ, List.set_cons_zero]
            refine rdH 2 (fun K hK => ?_)
            go_simp
            have S3 : Below Xr.heap.size Xr (w2.drew.alloc (.cells #[.int .i64 k, .int .i64 c] 61)) := hS.alloc hS.size _
            have O3 : Hid (OwnM (w2.drew.alloc (.cells #[.int .i64 k, .int .i64 c] 61)) Xr.heap.size 61 2 (.slice ao1 q cp1) q (nums (rowL L) (q * 2))) := O2'.out.later (below_alloc w2 _).drew
            have R3 : Hid (Row (w2.drew.alloc (.cells #[.int .i64 k, .int .i64 c] 61)) 0 2 1 (fun p => [(k : Int), c].getD p 0) (.slice (some ⟨w2.heap.size, 0, none⟩) 1 1)) := row_litD w2.drew k c 61
            refine hK.out _ _ S3 (fun hS => ?_)
            clear hK K S3
            refine rdH 3 (fun K hK => ?_)
            refine step_app 61 i0 (.agg #[.int .i64 0, .int .i64 0]) 2 16 (by rfl) _ _ 58 (by rfl) Tryz.underlying58 hi hz0 hz1 hz2 rfl (by omega) (by omega) _ Xr.heap.size q (nums (rowL L) (q * 2)) (.slice ao1 q cp1) (by rfl) O3.out 0 1 (fun p => [(k : Int), c].getD p 0) (.slice (some ⟨w2.heap.size, 0, none⟩) 1 1) (by rfl) R3.out (by omega) hS.size ?_
            intro ao3 cp3 w4 O4 G4
            have S4 : Below Xr.heap.size Xr w4 := hS.grown G4 hS.size (fun r e => (O3.out.block r e).1)
            have O4' : Hid (OwnM w4 Xr.heap.size 61 2 (.slice ao3 (q + 1) cp3) (q + 1) (nums (rowL L) (q * 2) ++ [(k : Int), c])) := O4
            clear O4 G4 O3 R3 O2'
            refine hK.out _ _ S4 (fun hS => ?_)
            clear hK K S4
            refine rdH 7 (fun K hK => ?_)
            refine step_app 61 i0 (.agg #[.int .i64 0, .int .i64 0]) 2 16 (by rfl) _ _ 58 (by rfl) Tryz.underlying58 hi hz0 hz1 hz2 rfl (by omega) (by omega) _ Xr.heap.size (q + 1) (nums (rowL L) (q * 2) ++ [(k : Int), c]) (.slice ao3 (q + 1) cp3) (by rfl) O4'.out 0 (L.length - q) (fun p => rowL L (q * 2 + p)) (.slice (if cp = q then ao else Option.map (fun x => x.add (q * 2)) ao) (L.length - q) (cp - q)) (by rfl) (Row.over _ _ _ _ _ _ _ _ hlt2) (by omega) hS.size ?_
            intro ao5 cp5 w6 O6 G6
            have S6 : Below Xr.heap.size Xr w6 := hS.grown G6 hS.size (fun r e => (O4'.out.block r e).1)
            have HO6 : Hid (Own w6 w.heap.size 61 2 (histL D R (k + 1)).length (rowL (histL D R (k + 1))) (.slice ao5 (histL D R (k + 1)).length cp5)) := by
              have e1 : q + 1 + (L.length - q) = L.length + 1 := by omega
              rw [e1] at O6
              unfold Hid
              rw [HNX.out, putD_length]
              refine own_eqP ((OwnM.own O6 (by rw [List.length_append, List.length_append, nums_length, nums_length]; simp; omega)).mono HBX.out.size) (fun p hp => ?_)
              unfold putD
              rw [← HQ.out]
              exact rowL_insert hq hp
            have e8 : Hid (q + 1 + (L.length - q) = (histL D R (k + 1)).length) := by unfold Hid; rw [HNX.out, putD_length]; omega
            clear O6 G6 O4'
            refine hK.out _ _ S6 (fun hS => ?_)
            clear hK K S6
            refine tkH 8 ?_ hS (fun wx hx => ?_) ?_; rotate_left
            · have hx0 := (hx.cell (p := ⟨wa.heap.size, 0, none⟩) hzr).trans HI.out.1.1.1; have hx1 := (hx.cell (p := ⟨wa.heap.size, 1, none⟩) hzr).trans HI.out.1.1.2; go_simp; try with_reducible rfl
            refine wpAnyH_done (by kernel_rfl) ?_ _
            go_simp
            go_wp2
            all_goals
              go_roundw
              case rel => exact ⟨k + 1, ao5, cp5, by omega, by go_num, by rw [e8.out], HO6, HBX.out.trans (hS.mono HBX.out.size), HRX.out.later hS⟩
              case measure => simp [intOf]; omega
end Go.Proofs.YtjkchhcnochjlaaGreatDoor

namespace Go.Proofs.YtjkchhcnochjlaaGreatDoor
open Go.RowKit

set_option maxRecDepth 100000 in
set_option maxHeartbeats 2000000 in
theorem runFits_is (x0 x1 x2 x3 x4 x5 x6 x7 x8 x9 nw nx bd : Int) (u v : Value) (a2 : Option Addr) (nt c2 : Nat) (r : Bool) (hr : decide (Fits nx nt x6 x7 x8 x9) = r) (h1 : 1 ≤ nx) (h2 : nx ≤ 100000) (w : World) :
    Calls Tryz.prog 34 #[.agg #[.int .i64 x0, .int .i64 x1, .int .i64 x2, .int .i64 x3, .int .i64 x4, .int .i64 x5, .int .i64 x6, .int .i64 x7, .int .i64 x8, .int .i64 x9], .agg #[.int .i64 nw, .int .i64 nx, .int .i64 bd, u, v, .slice a2 nt c2]] w fun e w' => e = .returned (.bool r) ∧ Below w.heap.size w w' := by
  unfold Fits at hr
  have HB : Hid (Below w.heap.size w ((w.alloc (.cells #[.int .i64 x0, .int .i64 x1, .int .i64 x2, .int .i64 x3, .int .i64 x4, .int .i64 x5, .int .i64 x6, .int .i64 x7, .int .i64 x8, .int .i64 x9] 65)).alloc (.cells #[.int .i64 nw, .int .i64 nx, .int .i64 bd, u, v, .slice a2 nt c2] 45))) := (below_alloc _ _).alloc (by simp) _
  by_cases q1 : -1 ≤ x6
  case neg =>
    have a1 : decide (-1 ≤ x6) = false := decide_eq_false q1
    by_cases q3 : 1 ≤ x7 ∧ x7 ≤ 100000
    case neg =>
      have TT : Hid (decide (1 ≤ x7 ∧ x7 ≤ 100000) = false) := decide_eq_false q3
      by_cases q5 : 0 ≤ x8
      case neg =>
        have a5 : decide (0 ≤ x8) = false := decide_eq_false q5
        obtain rfl : r = false := by rw [← hr]; exact decide_eq_false (by omega)
        clear hr
        go_enter Tryz.func34, Tryz.ntmps34
        go_wp2_with fail
        refine (isTimeT_is _ _ TT.out _).mono ?_
        rintro e w9 ⟨rfl, hw9⟩
        obtain rfl := hw9.symm
        go_wp2
        go_ret
        exact ⟨rfl, HB.out⟩
      have a5 : decide (0 ≤ x8) = true := decide_eq_true q5
      by_cases q6 : x8 ≤ 10
      case neg =>
        have a6 : decide (x8 ≤ 10) = false := decide_eq_false q6
        obtain rfl : r = false := by rw [← hr]; exact decide_eq_false (by omega)
        clear hr
        go_enter Tryz.func34, Tryz.ntmps34
        go_wp2_with fail
        refine (isTimeT_is _ _ TT.out _).mono ?_
        rintro e w9 ⟨rfl, hw9⟩
        obtain rfl := hw9.symm
        go_wp2
        go_ret
        exact ⟨rfl, HB.out⟩
      have a6 : decide (x8 ≤ 10) = true := decide_eq_true q6
      obtain rfl : r = false := by rw [← hr]; exact decide_eq_false (by omega)
      clear hr
      go_enter Tryz.func34, Tryz.ntmps34
      go_wp2_with fail
      refine (isTimeT_is _ _ TT.out _).mono ?_
      rintro e w9 ⟨rfl, hw9⟩
      obtain rfl := hw9.symm
      go_wp2
      go_ret
      exact ⟨rfl, HB.out⟩
    have TT : Hid (decide (1 ≤ x7 ∧ x7 ≤ 100000) = true) := decide_eq_true q3
    by_cases q4 : x7 < nx
    case neg =>
      have a4 : decide (x7 < nx) = false := decide_eq_false q4
      by_cases q5 : 0 ≤ x8
      case neg =>
        have a5 : decide (0 ≤ x8) = false := decide_eq_false q5
        obtain rfl : r = false := by rw [← hr]; exact decide_eq_false (by omega)
        clear hr
        go_enter Tryz.func34, Tryz.ntmps34
        go_wp2_with fail
        refine (isTimeT_is _ _ TT.out _).mono ?_
        rintro e w9 ⟨rfl, hw9⟩
        obtain rfl := hw9.symm
        go_wp2
        go_ret
        exact ⟨rfl, HB.out⟩
      have a5 : decide (0 ≤ x8) = true := decide_eq_true q5
      by_cases q6 : x8 ≤ 10
      case neg =>
        have a6 : decide (x8 ≤ 10) = false := decide_eq_false q6
        obtain rfl : r = false := by rw [← hr]; exact decide_eq_false (by omega)
        clear hr
        go_enter Tryz.func34, Tryz.ntmps34
        go_wp2_with fail
        refine (isTimeT_is _ _ TT.out _).mono ?_
        rintro e w9 ⟨rfl, hw9⟩
        obtain rfl := hw9.symm
        go_wp2
        go_ret
        exact ⟨rfl, HB.out⟩
      have a6 : decide (x8 ≤ 10) = true := decide_eq_true q6
      obtain rfl : r = false := by rw [← hr]; exact decide_eq_false (by omega)
      clear hr
      go_enter Tryz.func34, Tryz.ntmps34
      go_wp2_with fail
      refine (isTimeT_is _ _ TT.out _).mono ?_
      rintro e w9 ⟨rfl, hw9⟩
      obtain rfl := hw9.symm
      go_wp2
      go_ret
      exact ⟨rfl, HB.out⟩
    have a4 : decide (x7 < nx) = true := decide_eq_true q4
    by_cases q5 : 0 ≤ x8
    case neg =>
      have a5 : decide (0 ≤ x8) = false := decide_eq_false q5
      obtain rfl : r = false := by rw [← hr]; exact decide_eq_false (by omega)
      clear hr
      go_enter Tryz.func34, Tryz.ntmps34
      go_wp2_with fail
      refine (isTimeT_is _ _ TT.out _).mono ?_
      rintro e w9 ⟨rfl, hw9⟩
      obtain rfl := hw9.symm
      go_wp2
      go_ret
      exact ⟨rfl, HB.out⟩
    have a5 : decide (0 ≤ x8) = true := decide_eq_true q5
    by_cases q6 : x8 ≤ 10
    case neg =>
      have a6 : decide (x8 ≤ 10) = false := decide_eq_false q6
      obtain rfl : r = false := by rw [← hr]; exact decide_eq_false (by omega)
      clear hr
      go_enter Tryz.func34, Tryz.ntmps34
      go_wp2_with fail
      refine (isTimeT_is _ _ TT.out _).mono ?_
      rintro e w9 ⟨rfl, hw9⟩
      obtain rfl := hw9.symm
      go_wp2
      go_ret
      exact ⟨rfl, HB.out⟩
    have a6 : decide (x8 ≤ 10) = true := decide_eq_true q6
    obtain rfl : r = false := by rw [← hr]; exact decide_eq_false (by omega)
    clear hr
    go_enter Tryz.func34, Tryz.ntmps34
    go_wp2_with fail
    refine (isTimeT_is _ _ TT.out _).mono ?_
    rintro e w9 ⟨rfl, hw9⟩
    obtain rfl := hw9.symm
    go_wp2
    go_ret
    exact ⟨rfl, HB.out⟩
  have a1 : decide (-1 ≤ x6) = true := decide_eq_true q1
  by_cases q2 : x6 < (nt : Int)
  case neg =>
    have a2 : decide (x6 < (nt : Int)) = false := decide_eq_false q2
    by_cases q3 : 1 ≤ x7 ∧ x7 ≤ 100000
    case neg =>
      have TT : Hid (decide (1 ≤ x7 ∧ x7 ≤ 100000) = false) := decide_eq_false q3
      by_cases q5 : 0 ≤ x8
      case neg =>
        have a5 : decide (0 ≤ x8) = false := decide_eq_false q5
        obtain rfl : r = false := by rw [← hr]; exact decide_eq_false (by omega)
        clear hr
        go_enter Tryz.func34, Tryz.ntmps34
        go_wp2_with fail
        refine (isTimeT_is _ _ TT.out _).mono ?_
        rintro e w9 ⟨rfl, hw9⟩
        obtain rfl := hw9.symm
        go_wp2
        go_ret
        exact ⟨rfl, HB.out⟩
      have a5 : decide (0 ≤ x8) = true := decide_eq_true q5
      by_cases q6 : x8 ≤ 10
      case neg =>
        have a6 : decide (x8 ≤ 10) = false := decide_eq_false q6
        obtain rfl : r = false := by rw [← hr]; exact decide_eq_false (by omega)
        clear hr
        go_enter Tryz.func34, Tryz.ntmps34
        go_wp2_with fail
        refine (isTimeT_is _ _ TT.out _).mono ?_
        rintro e w9 ⟨rfl, hw9⟩
        obtain rfl := hw9.symm
        go_wp2
        go_ret
        exact ⟨rfl, HB.out⟩
      have a6 : decide (x8 ≤ 10) = true := decide_eq_true q6
      obtain rfl : r = false := by rw [← hr]; exact decide_eq_false (by omega)
      clear hr
      go_enter Tryz.func34, Tryz.ntmps34
      go_wp2_with fail
      refine (isTimeT_is _ _ TT.out _).mono ?_
      rintro e w9 ⟨rfl, hw9⟩
      obtain rfl := hw9.symm
      go_wp2
      go_ret
      exact ⟨rfl, HB.out⟩
    have TT : Hid (decide (1 ≤ x7 ∧ x7 ≤ 100000) = true) := decide_eq_true q3
    by_cases q4 : x7 < nx
    case neg =>
      have a4 : decide (x7 < nx) = false := decide_eq_false q4
      by_cases q5 : 0 ≤ x8
      case neg =>
        have a5 : decide (0 ≤ x8) = false := decide_eq_false q5
        obtain rfl : r = false := by rw [← hr]; exact decide_eq_false (by omega)
        clear hr
        go_enter Tryz.func34, Tryz.ntmps34
        go_wp2_with fail
        refine (isTimeT_is _ _ TT.out _).mono ?_
        rintro e w9 ⟨rfl, hw9⟩
        obtain rfl := hw9.symm
        go_wp2
        go_ret
        exact ⟨rfl, HB.out⟩
      have a5 : decide (0 ≤ x8) = true := decide_eq_true q5
      by_cases q6 : x8 ≤ 10
      case neg =>
        have a6 : decide (x8 ≤ 10) = false := decide_eq_false q6
        obtain rfl : r = false := by rw [← hr]; exact decide_eq_false (by omega)
        clear hr
        go_enter Tryz.func34, Tryz.ntmps34
        go_wp2_with fail
        refine (isTimeT_is _ _ TT.out _).mono ?_
        rintro e w9 ⟨rfl, hw9⟩
        obtain rfl := hw9.symm
        go_wp2
        go_ret
        exact ⟨rfl, HB.out⟩
      have a6 : decide (x8 ≤ 10) = true := decide_eq_true q6
      obtain rfl : r = false := by rw [← hr]; exact decide_eq_false (by omega)
      clear hr
      go_enter Tryz.func34, Tryz.ntmps34
      go_wp2_with fail
      refine (isTimeT_is _ _ TT.out _).mono ?_
      rintro e w9 ⟨rfl, hw9⟩
      obtain rfl := hw9.symm
      go_wp2
      go_ret
      exact ⟨rfl, HB.out⟩
    have a4 : decide (x7 < nx) = true := decide_eq_true q4
    by_cases q5 : 0 ≤ x8
    case neg =>
      have a5 : decide (0 ≤ x8) = false := decide_eq_false q5
      obtain rfl : r = false := by rw [← hr]; exact decide_eq_false (by omega)
      clear hr
      go_enter Tryz.func34, Tryz.ntmps34
      go_wp2_with fail
      refine (isTimeT_is _ _ TT.out _).mono ?_
      rintro e w9 ⟨rfl, hw9⟩
      obtain rfl := hw9.symm
      go_wp2
      go_ret
      exact ⟨rfl, HB.out⟩
    have a5 : decide (0 ≤ x8) = true := decide_eq_true q5
    by_cases q6 : x8 ≤ 10
    case neg =>
      have a6 : decide (x8 ≤ 10) = false := decide_eq_false q6
      obtain rfl : r = false := by rw [← hr]; exact decide_eq_false (by omega)
      clear hr
      go_enter Tryz.func34, Tryz.ntmps34
      go_wp2_with fail
      refine (isTimeT_is _ _ TT.out _).mono ?_
      rintro e w9 ⟨rfl, hw9⟩
      obtain rfl := hw9.symm
      go_wp2
      go_ret
      exact ⟨rfl, HB.out⟩
    have a6 : decide (x8 ≤ 10) = true := decide_eq_true q6
    obtain rfl : r = false := by rw [← hr]; exact decide_eq_false (by omega)
    clear hr
    go_enter Tryz.func34, Tryz.ntmps34
    go_wp2_with fail
    refine (isTimeT_is _ _ TT.out _).mono ?_
    rintro e w9 ⟨rfl, hw9⟩
    obtain rfl := hw9.symm
    go_wp2
    go_ret
    exact ⟨rfl, HB.out⟩
  have a2 : decide (x6 < (nt : Int)) = true := decide_eq_true q2
  by_cases q3 : 1 ≤ x7 ∧ x7 ≤ 100000
  case neg =>
    have TT : Hid (decide (1 ≤ x7 ∧ x7 ≤ 100000) = false) := decide_eq_false q3
    by_cases q5 : 0 ≤ x8
    case neg =>
      have a5 : decide (0 ≤ x8) = false := decide_eq_false q5
      obtain rfl : r = false := by rw [← hr]; exact decide_eq_false (by omega)
      clear hr
      go_enter Tryz.func34, Tryz.ntmps34
      go_wp2_with fail
      refine (isTimeT_is _ _ TT.out _).mono ?_
      rintro e w9 ⟨rfl, hw9⟩
      obtain rfl := hw9.symm
      go_wp2
      go_ret
      exact ⟨rfl, HB.out⟩
    have a5 : decide (0 ≤ x8) = true := decide_eq_true q5
    by_cases q6 : x8 ≤ 10
    case neg =>
      have a6 : decide (x8 ≤ 10) = false := decide_eq_false q6
      obtain rfl : r = false := by rw [← hr]; exact decide_eq_false (by omega)
      clear hr
      go_enter Tryz.func34, Tryz.ntmps34
      go_wp2_with fail
      refine (isTimeT_is _ _ TT.out _).mono ?_
      rintro e w9 ⟨rfl, hw9⟩
      obtain rfl := hw9.symm
      go_wp2
      go_ret
      exact ⟨rfl, HB.out⟩
    have a6 : decide (x8 ≤ 10) = true := decide_eq_true q6
    obtain rfl : r = false := by rw [← hr]; exact decide_eq_false (by omega)
    clear hr
    go_enter Tryz.func34, Tryz.ntmps34
    go_wp2_with fail
    refine (isTimeT_is _ _ TT.out _).mono ?_
    rintro e w9 ⟨rfl, hw9⟩
    obtain rfl := hw9.symm
    go_wp2
    go_ret
    exact ⟨rfl, HB.out⟩
  have TT : Hid (decide (1 ≤ x7 ∧ x7 ≤ 100000) = true) := decide_eq_true q3
  by_cases q4 : x7 < nx
  case neg =>
    have a4 : decide (x7 < nx) = false := decide_eq_false q4
    by_cases q5 : 0 ≤ x8
    case neg =>
      have a5 : decide (0 ≤ x8) = false := decide_eq_false q5
      obtain rfl : r = false := by rw [← hr]; exact decide_eq_false (by omega)
      clear hr
      go_enter Tryz.func34, Tryz.ntmps34
      go_wp2_with fail
      refine (isTimeT_is _ _ TT.out _).mono ?_
      rintro e w9 ⟨rfl, hw9⟩
      obtain rfl := hw9.symm
      go_wp2
      go_ret
      exact ⟨rfl, HB.out⟩
    have a5 : decide (0 ≤ x8) = true := decide_eq_true q5
    by_cases q6 : x8 ≤ 10
    case neg =>
      have a6 : decide (x8 ≤ 10) = false := decide_eq_false q6
      obtain rfl : r = false := by rw [← hr]; exact decide_eq_false (by omega)
      clear hr
      go_enter Tryz.func34, Tryz.ntmps34
      go_wp2_with fail
      refine (isTimeT_is _ _ TT.out _).mono ?_
      rintro e w9 ⟨rfl, hw9⟩
      obtain rfl := hw9.symm
      go_wp2
      go_ret
      exact ⟨rfl, HB.out⟩
    have a6 : decide (x8 ≤ 10) = true := decide_eq_true q6
    obtain rfl : r = false := by rw [← hr]; exact decide_eq_false (by omega)
    clear hr
    go_enter Tryz.func34, Tryz.ntmps34
    go_wp2_with fail
    refine (isTimeT_is _ _ TT.out _).mono ?_
    rintro e w9 ⟨rfl, hw9⟩
    obtain rfl := hw9.symm
    go_wp2
    go_ret
    exact ⟨rfl, HB.out⟩
  have a4 : decide (x7 < nx) = true := decide_eq_true q4
  by_cases q5 : 0 ≤ x8
  case neg =>
    have a5 : decide (0 ≤ x8) = false := decide_eq_false q5
    obtain rfl : r = false := by rw [← hr]; exact decide_eq_false (by omega)
    clear hr
    go_enter Tryz.func34, Tryz.ntmps34
    go_wp2_with fail
    refine (isTimeT_is _ _ TT.out _).mono ?_
    rintro e w9 ⟨rfl, hw9⟩
    obtain rfl := hw9.symm
    go_wp2
    go_ret
    exact ⟨rfl, HB.out⟩
  have a5 : decide (0 ≤ x8) = true := decide_eq_true q5
  by_cases q6 : x8 ≤ 10
  case neg =>
    have a6 : decide (x8 ≤ 10) = false := decide_eq_false q6
    obtain rfl : r = false := by rw [← hr]; exact decide_eq_false (by omega)
    clear hr
    go_enter Tryz.func34, Tryz.ntmps34
    go_wp2_with fail
    refine (isTimeT_is _ _ TT.out _).mono ?_
    rintro e w9 ⟨rfl, hw9⟩
    obtain rfl := hw9.symm
    go_wp2
    go_ret
    exact ⟨rfl, HB.out⟩
  have a6 : decide (x8 ≤ 10) = true := decide_eq_true q6
  by_cases q7 : 0 ≤ x9 ∧ x9 ≤ 9999
  case neg =>
    have VV : Hid (decide (0 ≤ x9 ∧ x9 ≤ 9999) = false) := decide_eq_false q7
    obtain rfl : r = false := by rw [← hr]; exact decide_eq_false (by omega)
    clear hr
    go_enter Tryz.func34, Tryz.ntmps34
    go_wp2_with fail
    refine (isTimeT_is _ _ TT.out _).mono ?_
    rintro e w9 ⟨rfl, hw9⟩
    obtain rfl := hw9.symm
    go_wp2_with fail
    refine (isValueT_is _ _ VV.out _).mono ?_
    rintro e w9 ⟨rfl, hw9⟩
    obtain rfl := hw9.symm
    go_wp2
    go_ret
    exact ⟨rfl, HB.out⟩
  have VV : Hid (decide (0 ≤ x9 ∧ x9 ≤ 9999) = true) := decide_eq_true q7
  obtain rfl : r = true := by rw [← hr]; exact decide_eq_true (by omega)
  clear hr
  go_enter Tryz.func34, Tryz.ntmps34
  go_wp2_with fail
  refine (isTimeT_is _ _ TT.out _).mono ?_
  rintro e w9 ⟨rfl, hw9⟩
  obtain rfl := hw9.symm
  go_wp2_with fail
  refine (isValueT_is _ _ VV.out _).mono ?_
  rintro e w9 ⟨rfl, hw9⟩
  obtain rfl := hw9.symm
  go_wp2
  go_ret
  exact ⟨rfl, HB.out⟩
end Go.Proofs.YtjkchhcnochjlaaGreatDoor

namespace Go.Proofs.YtjkchhcnochjlaaGreatDoor
open Go.RowKit

set_option maxRecDepth 100000 in
set_option maxHeartbeats 2000000 in
theorem implFsWorldFault_any (nw nx bd : Int) (nr : Nat) (F : Nat → Int) (n : Nat) (S : Nat → Sto) (V : Nat → Nat → Value) (vr vs : Value) (nt : Nat) (T : Nat → Tx) (X : Nat → Value) (vt : Value) (nq : Nat) (R : Nat → Int) (vq : Value) (B : Nat) (w : World) (h : Grs w B nr F n S V vr vs) (hx : Txs w B nt T X vt) (hq : Row w B 10 nq R vq) (hr : nr ≤ 9223372036854775807) (hn : n ≤ 9223372036854775807) (hnt : nt ≤ 9223372036854775807) (hnq : nq ≤ 9223372036854775807) :
    Calls Tryz.prog 18 #[.agg #[.int .i64 nw, .int .i64 nx, .int .i64 bd, vr, vs, vt, vq]] w fun e w' => e = .returned (.int .i64 (fsW nw nx bd nr F n S nt T nq R)) ∧ Below w.heap.size w w' := by
  obtain ⟨a0, c0, a1, c1, rfl, rfl⟩ := h.form
  obtain ⟨a2, c2, rfl⟩ := hx.form
  obtain ⟨a3, c3, rfl⟩ := hq.form
  have H : Hid (LiesF (w.alloc (.cells #[.int .i64 nw, .int .i64 nx, .int .i64 bd, .slice a0 nr c0, .slice a1 n c1, .slice a2 nt c2, .slice a3 nq c3] 48)) w.heap.size nw nx bd nr F n S V (.slice a0 nr c0) (.slice a1 n c1) nt T X (.slice a2 nt c2) nq R (.slice a3 nq c3) ∧ Below w.heap.size w (w.alloc (.cells #[.int .i64 nw, .int .i64 nx, .int .i64 bd, .slice a0 nr c0, .slice a1 n c1, .slice a2 nt c2, .slice a3 nq c3] 48))) := ⟨⟨Blk7F.new w _ _ _ _ _ _ _ _, (h.mono (Nat.zero_le _)).alloc _, (hx.mono (Nat.zero_le _)).alloc _, (hq.mono (Nat.zero_le _)).later (below_alloc _ _)⟩, below_alloc _ _⟩
  clear h hx hq
  obtain ⟨f, hf⟩ : ∃ f, worldF nw nx bd nr F n S nt T = f := ⟨_, rfl⟩
  have HF : Hid (worldF nw nx bd nr F n S nt T = f) := hf
  clear hf
  go_enter Tryz.func18, Tryz.ntmps18
  go_wp2_with fail
  generalize w.alloc (.cells #[.int .i64 nw, .int .i64 nx, .int .i64 bd, .slice a0 nr c0, .slice a1 n c1, .slice a2 nt c2, .slice a3 nq c3] 48) = w0 at H ⊢
  refine (implWorldFault_any nw nx bd nr F n S V _ _ nt T X _ 0 _ H.out.1.2.1 H.out.1.2.2.1 hr hn hnt).mono ?_
  rw [HF.out]
  rintro e w1 ⟨rfl, q1⟩
  have H1 : Hid (LiesF w1 w.heap.size nw nx bd nr F n S V (.slice a0 nr c0) (.slice a1 n c1) nt T X (.slice a2 nt c2) nq R (.slice a3 nq c3) ∧ Below w.heap.size w w1) := ⟨H.out.1.later q1, H.out.2.trans (q1.mono H.out.2.size)⟩
  clear q1 H
  by_cases hz : f = 0
  case neg =>
    have d' : (f != 0) = true := bne_iff_ne.2 hz
    have E : Hid (fsW nw nx bd nr F n S nt T nq R = f) := fsW_world HF.out hz
    clear hz HF
    go_wp2
    go_ret
    exact ⟨by rw [E.out]; rfl, H1.out.2⟩
  subst hz
  obtain ⟨⟨p0, p1, p2, p3, p4, p5, p6⟩, _⟩ := H1.out.1.1
  by_cases h30 : 30 < nq
  · have d : decide ((30 : Int) < (nq : Int)) = true := decide_eq_true (by omega)
    have E : Hid (fsW nw nx bd nr F n S nt T nq R = 2) := fsW_many HF.out h30
    clear h30 HF
    go_wp2
    go_ret
    exact ⟨by rw [E.out]; rfl, H1.out.2⟩
  have d : decide ((30 : Int) < (nq : Int)) = false := decide_eq_false (by omega)
  have EW : Hid (fsW nw nx bd nr F n S nt T nq R = scan (runF nx nt R) nq) := fsW_runs HF.out h30
  have HZ : Hid (nt ≤ 16 ∧ 1 ≤ nx ∧ nx ≤ 100000) := by
    have z := worldF_zero HF.out
    have y := oFault_zero z.2.1
    exact ⟨z.2.2.2.1, by omega⟩
  have hn30 : nq ≤ 30 := by omega
  clear h30 HF
  go_wp2_with fail
  clear p0 p1 p2 p3 p4 p5 p6 d
  go_loopw [20] (fun i wr => ∃ k : Nat, k ≤ nq ∧ i = .int .i64 k ∧ Hid (scan (runF nx nt R) k = 0) ∧ Hid (LiesF wr w.heap.size nw nx bd nr F n S V (.slice a0 nr c0) (.slice a1 n c1) nt T X (.slice a2 nt c2) nq R (.slice a3 nq c3) ∧ Below w.heap.size w wr)) (fun i _ => nq - (intOf i).toNat)
  case atStart => exact ⟨0, Nat.zero_le _, rfl, rfl, H1⟩
  case round =>
    clear H1
    obtain ⟨k, hk, rfl, HS, HB⟩ := hrel
    by_cases hlt : k < nq
    case neg =>
      obtain rfl : k = nq := by omega
      have E : Hid (fsW nw nx bd nr F n S nt T k R = 0) := EW.out.trans HS.out
      go_wp2
      go_ret
      exact ⟨by rw [E.out]; rfl, HB.out.2⟩
    obtain ⟨g, o, rfl, _, hg, y0, y1, y2, y3, y4, y5, y6, y7, y8, y9⟩ := HB.out.1.2.2.2.at10 hlt
    obtain ⟨x0, hx0⟩ : ∃ x, R (k * 10) = x := ⟨_, rfl⟩
    rw [hx0] at y0
    obtain ⟨x1, hx1⟩ : ∃ x, R (k * 10 + 1) = x := ⟨_, rfl⟩
    rw [hx1] at y1
    obtain ⟨x2, hx2⟩ : ∃ x, R (k * 10 + 2) = x := ⟨_, rfl⟩
    rw [hx2] at y2
    obtain ⟨x3, hx3⟩ : ∃ x, R (k * 10 + 3) = x := ⟨_, rfl⟩
    rw [hx3] at y3
    obtain ⟨x4, hx4⟩ : ∃ x, R (k * 10 + 4) = x := ⟨_, rfl⟩
    rw [hx4] at y4
    obtain ⟨x5, hx5⟩ : ∃ x, R (k * 10 + 5) = x := ⟨_, rfl⟩
    rw [hx5] at y5
    obtain ⟨x6, hx6⟩ : ∃ x, R (k * 10 + 6) = x := ⟨_, rfl⟩
    rw [hx6] at y6
    obtain ⟨x7, hx7⟩ : ∃ x, R (k * 10 + 7) = x := ⟨_, rfl⟩
    rw [hx7] at y7
    obtain ⟨x8, hx8⟩ : ∃ x, R (k * 10 + 8) = x := ⟨_, rfl⟩
    rw [hx8] at y8
    obtain ⟨x9, hx9⟩ : ∃ x, R (k * 10 + 9) = x := ⟨_, rfl⟩
    rw [hx9] at y9
    have HX : Hid (R (k * 10) = x0 ∧ R (k * 10 + 1) = x1 ∧ R (k * 10 + 2) = x2 ∧ R (k * 10 + 3) = x3 ∧ R (k * 10 + 4) = x4 ∧ R (k * 10 + 5) = x5 ∧ R (k * 10 + 6) = x6 ∧ R (k * 10 + 7) = x7 ∧ R (k * 10 + 8) = x8 ∧ R (k * 10 + 9) = x9) := ⟨hx0, hx1, hx2, hx3, hx4, hx5, hx6, hx7, hx8, hx9⟩
    clear hx0 hx1 hx2 hx3 hx4 hx5 hx6 hx7 hx8 hx9
    obtain ⟨f, hf⟩ : ∃ f, opF x0 x1 x2 x3 x4 x5 = f := ⟨_, rfl⟩
    have HF : Hid (opF x0 x1 x2 x3 x4 x5 = f) := hf
    clear hf
    have HO : Hid (opF (R (k * 10)) (R (k * 10 + 1)) (R (k * 10 + 2)) (R (k * 10 + 3)) (R (k * 10 + 4)) (R (k * 10 + 5)) = f) := by
      obtain ⟨e0, e1, e2, e3, e4, e5, e6, e7, e8, e9⟩ := HX.out
      show opF (R (k * 10)) (R (k * 10 + 1)) (R (k * 10 + 2)) (R (k * 10 + 3)) (R (k * 10 + 4)) (R (k * 10 + 5)) = f
      rw [e0, e1, e2, e3, e4, e5]
      exact HF.out
    have HFT : Hid (Fits nx nt (R (k * 10 + 6)) (R (k * 10 + 7)) (R (k * 10 + 8)) (R (k * 10 + 9)) ↔ Fits nx nt x6 x7 x8 x9) := by
      obtain ⟨e0, e1, e2, e3, e4, e5, e6, e7, e8, e9⟩ := HX.out
      show Fits nx nt (R (k * 10 + 6)) (R (k * 10 + 7)) (R (k * 10 + 8)) (R (k * 10 + 9)) ↔ _
      rw [e6, e7, e8, e9]
    have K0 : Hid (Blk10 (wr.alloc (.cells #[.int .i64 x0, .int .i64 x1, .int .i64 x2, .int .i64 x3, .int .i64 x4, .int .i64 x5, .int .i64 x6, .int .i64 x7, .int .i64 x8, .int .i64 x9] 65)) wr.heap.size (.int .i64 x0) (.int .i64 x1) (.int .i64 x2) (.int .i64 x3) (.int .i64 x4) (.int .i64 x5) (.int .i64 x6) (.int .i64 x7) (.int .i64 x8) (.int .i64 x9) ∧ (LiesF (wr.alloc (.cells #[.int .i64 x0, .int .i64 x1, .int .i64 x2, .int .i64 x3, .int .i64 x4, .int .i64 x5, .int .i64 x6, .int .i64 x7, .int .i64 x8, .int .i64 x9] 65)) w.heap.size nw nx bd nr F n S V (.slice a0 nr c0) (.slice a1 n c1) nt T X (.slice a2 nt c2) nq R (.slice (some ⟨g, o, none⟩) nq c3) ∧ Below w.heap.size w (wr.alloc (.cells #[.int .i64 x0, .int .i64 x1, .int .i64 x2, .int .i64 x3, .int .i64 x4, .int .i64 x5, .int .i64 x6, .int .i64 x7, .int .i64 x8, .int .i64 x9] 65)))) := ⟨Blk10.new wr _ _ _ _ _ _ _ _ _ _ _, HB.out.1.later (below_alloc _ _), HB.out.2.alloc HB.out.2.size _⟩
    go_wp2_with fail
    generalize wr.alloc (.cells #[.int .i64 x0, .int .i64 x1, .int .i64 x2, .int .i64 x3, .int .i64 x4, .int .i64 x5, .int .i64 x6, .int .i64 x7, .int .i64 x8, .int .i64 x9] 65) = wb at K0 ⊢
    refine (implFsOp_any x0 x1 x2 x3 x4 x5 _).mono ?_
    rw [HF.out]
    rintro e w2 ⟨rfl, q2⟩
    have K2 : Hid (Blk10 w2 wr.heap.size (.int .i64 x0) (.int .i64 x1) (.int .i64 x2) (.int .i64 x3) (.int .i64 x4) (.int .i64 x5) (.int .i64 x6) (.int .i64 x7) (.int .i64 x8) (.int .i64 x9) ∧ (LiesF w2 w.heap.size nw nx bd nr F n S V (.slice a0 nr c0) (.slice a1 n c1) nt T X (.slice a2 nt c2) nq R (.slice (some ⟨g, o, none⟩) nq c3) ∧ Below w.heap.size w w2)) := ⟨K0.out.1.later q2, K0.out.2.1.later q2, K0.out.2.2.trans (q2.mono K0.out.2.2.size)⟩
    clear q2 HB K0 y0 y1 y2 y3 y4 y5 y6 y7 y8 y9
    by_cases hz : f = 0
    case neg =>
      have d' : (f != 0) = true := bne_iff_ne.2 hz
      have E : Hid (fsW nw nx bd nr F n S nt T nq R = f) := by
        have h1 : runF nx nt R k = f := runF_op HO.out hz
        exact EW.out.trans ((scan_stop HS.out (by rw [h1]; exact hz) hlt).trans h1)
      clear hz HF HS EW
      go_wp2
      go_ret
      exact ⟨by rw [E.out]; rfl, K2.out.2.2⟩
    subst hz
    obtain ⟨⟨p0, p1, p2, p3, p4, p5, p6⟩, _⟩ := K2.out.2.1.1
    obtain ⟨⟨y0, y1, y2, y3, y4, y5, y6, y7, y8, y9⟩, _⟩ := K2.out.1
    by_cases hfit : Fits nx nt x6 x7 x8 x9
    case neg =>
      have E : Hid (fsW nw nx bd nr F n S nt T nq R = 3) := by
        have h1 : runF nx nt R k = 3 := runF_no HO.out (fun q => hfit (HFT.out.1 q))
        exact EW.out.trans ((scan_stop HS.out (by rw [h1]; decide) hlt).trans h1)
      have HD : Hid (decide (Fits nx nt x6 x7 x8 x9) = false) := decide_eq_false hfit
      clear hfit HF HS EW HO HFT HX
      go_wp2_with fail
      refine (runFits_is x0 x1 x2 x3 x4 x5 x6 x7 x8 x9 nw nx bd _ _ _ nt _ false HD.out HZ.out.2.1 HZ.out.2.2 _).mono ?_
      rintro e w3 ⟨rfl, q3⟩
      have BB : Hid (Below w.heap.size w w3) := K2.out.2.2.trans (q3.mono K2.out.2.2.size)
      clear q3 p0 p1 p2 p3 p4 p5 p6 y0 y1 y2 y3 y4 y5 y6 y7 y8 y9 K2
      go_wp2
      go_ret
      exact ⟨by rw [E.out]; rfl, BB.out⟩
    have HS1 : Hid (scan (runF nx nt R) (k + 1) = 0) := scan_go HS.out (runF_ok HO.out (HFT.out.2 hfit))
    have HD : Hid (decide (Fits nx nt x6 x7 x8 x9) = true) := decide_eq_true hfit
    clear hfit HF HS EW HO HFT HX
    go_wp2_with fail
    refine (runFits_is x0 x1 x2 x3 x4 x5 x6 x7 x8 x9 nw nx bd _ _ _ nt _ true HD.out HZ.out.2.1 HZ.out.2.2 _).mono ?_
    rintro e w3 ⟨rfl, q3⟩
    have K3 : Hid (LiesF w3 w.heap.size nw nx bd nr F n S V (.slice a0 nr c0) (.slice a1 n c1) nt T X (.slice a2 nt c2) nq R (.slice (some ⟨g, o, none⟩) nq c3) ∧ Below w.heap.size w w3) := ⟨K2.out.2.1.later q3, K2.out.2.2.trans (q3.mono K2.out.2.2.size)⟩
    clear q3 p0 p1 p2 p3 p4 p5 p6 y0 y1 y2 y3 y4 y5 y6 y7 y8 y9 K2
    go_wp2
    go_roundw
    case rel => exact ⟨k + 1, by omega, by go_num, HS1, K3⟩
    case measure => simp [intOf]; omega
end Go.Proofs.YtjkchhcnochjlaaGreatDoor

