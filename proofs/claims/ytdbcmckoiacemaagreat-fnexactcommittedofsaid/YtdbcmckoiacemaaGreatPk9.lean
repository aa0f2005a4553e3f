/-
  Own text, merged of TxsE, AcmD.
-/
import Derived.Test.YtdbcmckoiacemaaGreatPk8
namespace Go.Proofs.YtdbcmckoiacemaaGreat
open Go.RowKit

set_option maxHeartbeats 2000000 in
theorem markGroups_lim (nr : Nat) (F : Nat → Int) (n : Nat) (S : Nat → Sto) (ra : Option Addr) (rc g : Nat) (U : Nat → Nat → Value) (z : Nat → Nat) (lo : Nat) (w : World) (h : FineG w lo nr F n S ra rc g U z) (hr : nr ≤ 1048576) (hn : n ≤ 1048576) (hs : ∀ i, i < n → SmallS (S i)) (ht : sumN (sizeT S) n ≤ 1048576) :
    Calls Tryz.prog 33 #[.agg #[.slice ra nr rc, .slice (some ⟨g, 0, none⟩) n n], .int .i64 1] w fun e w' => ∃ k : Int, (0 ≤ k ∧ k ≤ 20000000) ∧ e = .returned (.int .i64 k) ∧ Within lo (z n) w w' := by
  have H : Hid (FineG w lo nr F n S ra rc g U z) := h
  have HN : Hid ((∀ i, i < n → SmallS (S i)) ∧ sumN (sizeT S) n ≤ 1048576) := ⟨hs, ht⟩
  clear h hs ht
  have hb2 := Blk2.new w (.slice ra nr rc) (.slice (some ⟨g, 0, none⟩) n n) 40
  have HB : Hid (Blk2 (w.alloc (.cells #[.slice ra nr rc, .slice (some ⟨g, 0, none⟩) n n] 40)) w.heap.size (.slice ra nr rc) (.slice (some ⟨g, 0, none⟩) n n)) := hb2
  clear hb2
  go_enter Tryz.func33, Tryz.ntmps33
  go_wp2_with fail
  refine (markRangeS_turn _ lo nr F 1 _ (H.out.1.1.alloc _) (H.out.1.2.1.ofRow H.out.1.1 (below_alloc _ _)) hr (by omega) (by omega)).mono ?_
  rintro e w1 ⟨rfl, _, _, g1⟩
  have hzn : g < z n := H.out.2.2.2.2.2.1 n (Nat.le_refl _)
  have hz0 : z 0 = g + 1 := H.out.2.2.2.2.1
  have hzs : z n ≤ w.heap.size := H.out.2.2.2.2.2.2
  have W1 : Hid (Within lo (g + 1) (w.alloc (.cells #[.slice ra nr rc, .slice (some ⟨g, 0, none⟩) n n] 40)) w1) := Within.of g1 (fun b q => by obtain ⟨h0, h1⟩ := turn_eq q; exact ⟨(H.out.1.1.lt h0 b h1).1, by have := H.out.1.2.2 h0 b h1; omega⟩)
  have g1b := g1.block w.heap.size (by simp) (fun q => by obtain ⟨h0, h1⟩ := turn_eq q.symm; have := (H.out.1.1.lt h0 _ h1).2; omega)
  have HB1 : Hid (Blk2 w1 w.heap.size (.slice ra nr rc) (.slice (some ⟨g, 0, none⟩) n n)) := HB.out.kept g1b
  have gg : w1.heap[g]? = w.heap[g]? := by
    have h1 := g1.block g (by have := H.out.2.2.1.1; simp; omega) (fun q => by obtain ⟨h0, h1⟩ := turn_eq q.symm; have := H.out.1.2.2 h0 _ h1; omega)
    exact h1.trans ((below_alloc w _).block g H.out.2.2.1.1)
  have FL : Hid (FillS w1 g n n U) := H.out.2.2.1.kept (Nat.le_trans (by simp) g1.size) gg
  have FI : Hid (Fine w1 z n S U) := fun i hi => by
    obtain ⟨⟨x1, x2, x3⟩, x4, x5⟩ := (H.out.2.2.2.1.later (below_alloc w (.cells #[.slice ra nr rc, .slice (some ⟨g, 0, none⟩) n n] 40))) i hi
    have ho : OwnIn (S i) (U i 0) (U i 1) (U i 2) (fun j => j < lo ∨ g + 1 ≤ j) := x4.mono (fun j hj => Or.inr (by have := H.out.2.2.2.1.up i (by omega) 0 (Nat.zero_le _); omega))
    exact ⟨⟨x1.within W1.out ho, x2.within x1 W1.out ho, x3⟩, x4, x5⟩
  have hs1 : z n ≤ w1.heap.size := Nat.le_trans hzs (Nat.le_trans (by simp) g1.size)
  clear g1 g1b gg
  obtain ⟨⟨p0, p1⟩, _⟩ := HB1.out
  go_wp2_with fail
  refine (markStoreS_any n n g S U z (1 + nr * 3) _ FL.out FI.out (by omega) hs1 HN.out.1 HN.out.2 (by omega) (by omega) hn).mono ?_
  rintro e w2 ⟨rfl, _, W2⟩
  have hlo : lo ≤ g := H.out.2.1
  have WW : Hid (Within lo (z n) w w2) := ((Within.grow (below_alloc w _)).trans (W1.out.mono (Nat.le_refl _) (by omega))).trans (W2.mono (by omega) (Nat.le_refl _))
  clear W2 W1 FL FI HB1 HB p0 p1
  go_wp2
  go_ret
  exact ⟨1 + nr * 3 + (sumN (markT S) n : Nat), ⟨by omega, by have := markT_le S n; have := HN.out.2; omega⟩, rfl, WW.out⟩
theorem FillT.withinW {w w' : World} {g n k B E : Nat} {T : Nat → Tx} {U : Nat → Value} (h : FillT w g n k T U) (hw : Within B E w w') (hg : g < B ∨ E ≤ g) : FillT w' g n k T U := Fil.within h hw hg
theorem FineT.withinW {w w' : World} {z : Nat → Nat} {n B E : Nat} {T : Nat → Tx} {U : Nat → Value} (h : FineT w z n T U) (hw : Within B E w w') (hz : ∀ i, i ≤ n → E ≤ z i) : FineT w' z n T U := fun i hi => by
  obtain ⟨⟨h1, h2, h3⟩, h4, h5⟩ := h i hi
  have ho : 0 < (T i).m → ∀ q, (U i).ownBlock = some q → q < B ∨ E ≤ q := fun h0 q hq => Or.inr (by have := (h4 h0 q hq).1; have := hz i (by omega); omega)
  exact ⟨⟨h1.within hw ho, h2.within h1 hw ho, h3⟩, h4, h5⟩
/-- A world of its own: its groups, then its transactions, block behind block. -/
def OwnW (w : World) (lo nr : Nat) (F : Nat → Int) (n : Nat) (S : Nat → Sto) (ra : Option Addr) (rc g : Nat) (U : Nat → Nat → Value) (z : Nat → Nat) (nt : Nat) (T : Nat → Tx) (gt : Nat) (Y : Nat → Value) (zt : Nat → Nat) : Prop :=
  FineG w lo nr F n S ra rc g U z ∧ (z n ≤ gt ∧ gt < w.heap.size ∧ FillT w gt nt nt T Y ∧ FineT w zt nt T Y ∧ zt 0 = gt + 1 ∧ (∀ i, i ≤ nt → gt < zt i) ∧ zt nt ≤ w.heap.size)
theorem OwnW.later {w w' : World} {lo nr : Nat} {F : Nat → Int} {n : Nat} {S : Nat → Sto} {ra : Option Addr} {rc g : Nat} {U : Nat → Nat → Value} {z : Nat → Nat} {nt : Nat} {T : Nat → Tx} {gt : Nat} {Y : Nat → Value} {zt : Nat → Nat} (h : OwnW w lo nr F n S ra rc g U z nt T gt Y zt) (hb : Below w.heap.size w w') : OwnW w' lo nr F n S ra rc g U z nt T gt Y zt :=
  ⟨h.1.later hb, h.2.1, Nat.lt_of_lt_of_le h.2.2.1 hb.size, Fil.later h.2.2.2.1 hb, h.2.2.2.2.1.later hb, h.2.2.2.2.2.1, h.2.2.2.2.2.2.1, Nat.le_trans h.2.2.2.2.2.2.2 hb.size⟩
set_option maxRecDepth 100000 in
set_option maxHeartbeats 4000000 in
theorem markWorld_any (nw nx bd : Int) (lo nr : Nat) (F : Nat → Int) (n : Nat) (S : Nat → Sto) (ra : Option Addr) (rc g : Nat) (U : Nat → Nat → Value) (z : Nat → Nat) (nt : Nat) (T : Nat → Tx) (gt : Nat) (Y : Nat → Value) (zt : Nat → Nat) (w : World) (h : OwnW w lo nr F n S ra rc g U z nt T gt Y zt) (hs : (nr ≤ 1048576 ∧ n ≤ 1048576 ∧ ∀ i, i < n → SmallS (S i)) ∧ nt ≤ 1048576 ∧ ∀ i, i < nt → (T i).m ≤ 1048576) (ht : sumN (sizeT S) n ≤ 1048576 ∧ sumN (sizeX T) nt ≤ 1048576) :
    Calls Tryz.prog 11 #[.agg #[.int .i64 nw, .int .i64 nx, .int .i64 bd, .slice ra nr rc, .slice (some ⟨g, 0, none⟩) n n, .slice (some ⟨gt, 0, none⟩) nt nt], .int .i64 1] w fun e w' => ∃ k : Int, 0 ≤ k ∧ e = .returned (.int .i64 k) ∧ Within lo (zt nt) w w' := by
  have H : Hid (OwnW (w.alloc (.cells #[.int .i64 nw, .int .i64 nx, .int .i64 bd, .slice ra nr rc, .slice (some ⟨g, 0, none⟩) n n, .slice (some ⟨gt, 0, none⟩) nt nt] 43)) lo nr F n S ra rc g U z nt T gt Y zt) := h.later (below_alloc _ _)
  have HB : Hid (Blk6 (w.alloc (.cells #[.int .i64 nw, .int .i64 nx, .int .i64 bd, .slice ra nr rc, .slice (some ⟨g, 0, none⟩) n n, .slice (some ⟨gt, 0, none⟩) nt nt] 43)) w.heap.size (.int .i64 nw) (.int .i64 nx) (.int .i64 bd) (.slice ra nr rc) (.slice (some ⟨g, 0, none⟩) n n) (.slice (some ⟨gt, 0, none⟩) nt nt)) := Blk6.new w _ _ _ _ _ _ _
  have hzt : zt nt ≤ w.heap.size := h.2.2.2.2.2.2.2
  have HN : Hid (((nr ≤ 1048576 ∧ n ≤ 1048576 ∧ ∀ i, i < n → SmallS (S i)) ∧ nt ≤ 1048576 ∧ ∀ i, i < nt → (T i).m ≤ 1048576) ∧ sumN (sizeT S) n ≤ 1048576 ∧ sumN (sizeX T) nt ≤ 1048576) := ⟨hs, ht⟩
  clear h hs ht
  go_enter Tryz.func11, Tryz.ntmps11
  go_wp2_with fail
  refine (markGroups_lim nr F n S ra rc g U z lo _ H.out.1 HN.out.1.1.1 HN.out.1.1.2.1 HN.out.1.1.2.2 HN.out.2.1).mono ?_
  rintro e w1 ⟨k, hk, rfl, W1⟩
  have hgt : zt 0 = gt + 1 := H.out.2.2.2.2.2.1
  have hzz := H.out.2.2.2.2.1.up nt (Nat.le_refl _) 0 (Nat.zero_le _)
  have hzg := H.out.2.1
  have HK : Hid (Blk6 w1 w.heap.size (.int .i64 nw) (.int .i64 nx) (.int .i64 bd) (.slice ra nr rc) (.slice (some ⟨g, 0, none⟩) n n) (.slice (some ⟨gt, 0, none⟩) nt nt)) := HB.out.kept (W1.block _ (by simp) (Or.inr (by omega)))
  have HT : Hid (FillT w1 gt nt nt T Y ∧ FineT w1 zt nt T Y ∧ ∀ i, i ≤ nt → gt < zt i) := ⟨H.out.2.2.2.1.withinW W1 (Or.inr hzg), H.out.2.2.2.2.1.withinW W1 (fun i hi => by have := H.out.2.2.2.2.2.2.1 i hi; omega), H.out.2.2.2.2.2.2.1⟩
  have HW1 : Hid (Within lo (zt nt) w w1) := (Within.grow (below_alloc w _)).trans (W1.mono (Nat.le_refl _) (by omega))
  have hlo : lo ≤ gt := by have := H.out.1.2.1; have := H.out.1.2.2.2.2.2.1 n (Nat.le_refl _); omega
  clear W1 H HB
  obtain ⟨⟨p0, p1, p2, p3, p4, p5⟩, _⟩ := HK.out
  go_wp2_with fail
  refine (markTxnS_any nt nt gt T Y zt k _ HT.out.1 HT.out.2.1 HT.out.2.2 HN.out.1.2.2 HN.out.2.2 hk.1 hk.2 HN.out.1.2.1).mono ?_
  rintro e w2 ⟨rfl, W2⟩
  have HW2 : Hid (Within lo (zt nt) w w2) := HW1.out.trans (W2.mono hlo (Nat.le_refl _))
  clear W2 HW1 HT HK p0 p1 p2 p3 p4 p5
  go_wp2
  go_ret
  exact ⟨_, by omega, rfl, HW2.out⟩
end Go.Proofs.YtdbcmckoiacemaaGreat

namespace Go.Proofs.YtdbcmckoiacemaaGreat
open Go.RowKit

/-- What the law stands on: its argument (block w.heap.size), what the model answered (block W), the program's copy (block q, its lists its own), what the program answered (block G). -/
structure EnvC (w : World) (nw nx bd : Int) (vr vs vt : Value) (W : Nat) (c : Int) (vw : Value) (q : Nat) (ur us ut : Value) (G : Nat) (vg : Value) (m : Nat) (R : Nat → Int) (lg : Nat) (x : World) : Prop where
  below : Below w.heap.size w x
  arg : Blk6 x w.heap.size (.int .i64 nw) (.int .i64 nx) (.int .i64 bd) vr vs vt
  want : Blk2 x W (.int .i64 c) vw
  copy : Blk6 x q (.int .i64 nw) (.int .i64 nx) (.int .i64 bd) ur us ut
  got : Blk2 x G (.int .i64 c) vg
  rw : Row x w.heap.size 2 m R vw
  rg : Row x lg 2 m R vg
  fg : Free x (m * 2) vg
theorem EnvC.later {w : World} {nw nx bd : Int} {vr vs vt : Value} {W : Nat} {c : Int} {vw : Value} {q : Nat} {ur us ut : Value} {G : Nat} {vg : Value} {m : Nat} {R : Nat → Int} {lg : Nat} {x x' : World} (h : EnvC w nw nx bd vr vs vt W c vw q ur us ut G vg m R lg x) (hb : Below x.heap.size x x') : EnvC w nw nx bd vr vs vt W c vw q ur us ut G vg m R lg x' :=
  ⟨h.below.trans (hb.mono h.below.size), h.arg.later hb, h.want.later hb, h.copy.later hb, h.got.later hb, h.rw.later hb, h.rg.later hb, h.fg.ofRow h.rg hb⟩
theorem EnvC.within {w : World} {nw nx bd : Int} {vr vs vt : Value} {W : Nat} {c : Int} {vw : Value} {q : Nat} {ur us ut : Value} {G : Nat} {vg : Value} {m : Nat} {R : Nat → Int} {lg : Nat} {x x' : World} {B E : Nat} (h : EnvC w nw nx bd vr vs vt W c vw q ur us ut G vg m R lg x) (hw : Within B E x x') (hB : w.heap.size < B) (hW : W < B) (hq : E ≤ q) (hG : E ≤ G) (ow : 0 < m → ∀ k, vw.ownBlock = some k → k < B) (og : 0 < m → ∀ k, vg.ownBlock = some k → E ≤ k) : EnvC w nw nx bd vr vs vt W c vw q ur us ut G vg m R lg x' :=
  ⟨hw.below h.below (Nat.le_of_lt hB), h.arg.kept (hw.block _ h.arg.lt (Or.inl hB)), h.want.kept (hw.block _ h.want.lt (Or.inl hW)), h.copy.kept (hw.block _ h.copy.lt (Or.inr hq)), h.got.kept (hw.block _ h.got.lt (Or.inr hG)), h.rw.within hw (fun h0 k hk => Or.inl (ow h0 k hk)), h.rg.within hw (fun h0 k hk => Or.inr (og h0 k hk)), h.fg.within h.rg hw (fun h0 k hk => Or.inr (og h0 k hk))⟩
theorem OwnW.grs {w : World} {lo nr : Nat} {F : Nat → Int} {n : Nat} {S : Nat → Sto} {ra : Option Addr} {rc g : Nat} {U : Nat → Nat → Value} {z : Nat → Nat} {nt : Nat} {T : Nat → Tx} {gt : Nat} {Y : Nat → Value} {zt : Nat → Nat} (h : OwnW w lo nr F n S ra rc g U z nt T gt Y zt) : Grs w 0 nr F n S U (.slice ra nr rc) (.slice (some ⟨g, 0, none⟩) n n) ∧ Txs w 0 nt T Y (.slice (some ⟨gt, 0, none⟩) nt nt) := by
  obtain ⟨hF, _, hgt, hfil, hfin, _⟩ := h
  refine ⟨hF.grs.mono (Nat.zero_le _), ⟨⟨_, _, rfl, fun _ => ⟨gt, 0, rfl, Nat.zero_le _, hgt, fun i hi j hj => ?_⟩⟩, fun i hi => ⟨(hfin i hi).1.1.mono (Nat.zero_le _), (hfin i hi).1.2.2⟩⟩⟩
  rw [Nat.zero_add]
  exact hfil.cell (Nat.le_refl _) hi hj
theorem NewWd.own {w w' : World} {nw nx bd : Int} {nr : Nat} {F : Nat → Int} {n : Nat} {S : Nat → Sto} {nt : Nat} {T : Nat → Tx} {e : Ending} (h : NewWd w nw nx bd nr F n S nt T e w') :
    ∃ ra rc g U z gt Y zt, e = .returned (.agg #[.int .i64 nw, .int .i64 nx, .int .i64 bd, .slice ra nr rc, .slice (some ⟨g, 0, none⟩) n n, .slice (some ⟨gt, 0, none⟩) nt nt]) ∧ OwnW w' w.heap.size nr F n S ra rc g U z nt T gt Y zt ∧ Below w.heap.size w w' := by
  obtain ⟨ra, rc, g, U, z, gt, Y, zt, he, hF, hT, hb⟩ := h
  exact ⟨ra, rc, g, U, z, gt, Y, zt, he, ⟨hF, hT⟩, hb⟩
set_option maxRecDepth 100000 in
set_option maxHeartbeats 8000000 in
theorem committed_walk (nw nx bd : Int) (nr : Nat) (F : Nat → Int) (n : Nat) (S : Nat → Sto) (V : Nat → Nat → Value) (vr vs : Value) (nt : Nat) (T : Nat → Tx) (X : Nat → Value) (vt : Value) (w : World) (h : Grs w 0 nr F n S V vr vs) (hx : Txs w 0 nt T X vt) (hr : nr ≤ 9223372036854775807) (hn : n ≤ 9223372036854775807) (hs : ∀ i, i < n → BigS (S i)) (hnt : nt ≤ 9223372036854775807) (hm : ∀ i, i < nt → (T i).m ≤ 9223372036854775807) :
    Calls Tryz.prog 3 #[.agg #[.int .i64 nw, .int .i64 nx, .int .i64 bd, vr, vs, vt]] w fun e w' => e = .returned (.bool true) ∧ Below w.heap.size w w' := by
  obtain ⟨a0, c0, a1, c1, rfl, rfl⟩ := h.form
  obtain ⟨a2, c2, rfl⟩ := hx.form
  have HG : Hid (Grs w 0 nr F n S V (.slice a0 nr c0) (.slice a1 n c1) ∧ Txs w 0 nt T X (.slice a2 nt c2)) := ⟨h, hx⟩
  have HN : Hid ((∀ i, i < n → BigS (S i)) ∧ ∀ i, i < nt → (T i).m ≤ 9223372036854775807) := ⟨hs, hm⟩
  have H : Hid (Blk6 (w.alloc (.cells #[.int .i64 nw, .int .i64 nx, .int .i64 bd, .slice a0 nr c0, .slice a1 n c1, .slice a2 nt c2] 30)) w.heap.size (.int .i64 nw) (.int .i64 nx) (.int .i64 bd) (.slice a0 nr c0) (.slice a1 n c1) (.slice a2 nt c2) ∧ Below w.heap.size w (w.alloc (.cells #[.int .i64 nw, .int .i64 nx, .int .i64 bd, .slice a0 nr c0, .slice a1 n c1, .slice a2 nt c2] 30))) := ⟨Blk6.new w _ _ _ _ _ _ _, below_alloc _ _⟩
  clear h hx hs hm
  obtain ⟨c, L, hL16, hans⟩ := CmAns.get nw nx bd nr F n S nt T
  obtain ⟨G, hG⟩ : ∃ G, rowL L = G := ⟨_, rfl⟩
  obtain ⟨m, hmm⟩ : ∃ m, L.length = m := ⟨_, rfl⟩
  rw [hmm] at hL16
  have hm : m ≤ 1048576 := by omega
  have hnn : decide ((1 : Int) + m * 2 < 0) = false := decide_eq_false (by omega)
  have HF : Hid (∀ (U : Nat → Nat → Value) (ur us : Value) (Y : Nat → Value) (ut : Value) (x : World), Grs x 0 nr F n S U ur us → Txs x 0 nt T Y ut → nr ≤ 1048576 → n ≤ 1048576 → nt ≤ 1048576 → (∀ i, i < nt → (T i).m ≤ 1048576) → Calls Tryz.prog 6 #[.agg #[.int .i64 nw, .int .i64 nx, .int .i64 bd, ur, us, ut]] x (ResRow 2 x c m G) ∧ Calls Tryz.prog 8 #[.agg #[.int .i64 nw, .int .i64 nx, .int .i64 bd, ur, us, ut]] x (ResRow 2 x c m G)) := fun U ur us Y ut x q1 q2 b1 b2 b3 b4 => by
    rw [← hG, ← hmm]
    exact ⟨specCommitted_is nw nx bd nr F n S U ur us nt T Y ut 0 c L x q1 q2 (by omega) (by omega) (by omega) (fun i hi => by have := b4 i hi; omega) hans, implCommitted_is nw nx bd nr F n S U ur us nt T Y ut 0 c L x q1 q2 (by omega) (by omega) (by omega) (fun i hi => by have := b4 i hi; omega) hans⟩
  clear hans hG hmm hL16
  go_enter Tryz.func3, Tryz.ntmps3
  go_wp2_with fail
  refine (szWorld_any nw nx bd nr F n S V _ _ nt T X _ 0 _ (HG.out.1.alloc _) (HG.out.2.alloc _) hr hn HN.out.1 hnt HN.out.2).mono ?_
  rintro e w1 ⟨r, rfl, hA, q1⟩
  have H1 : Hid (Blk6 w1 w.heap.size (.int .i64 nw) (.int .i64 nx) (.int .i64 bd) (.slice a0 nr c0) (.slice a1 n c1) (.slice a2 nt c2) ∧ Below w.heap.size w w1) := ⟨H.out.1.later q1, H.out.2.trans (q1.mono H.out.2.size)⟩
  clear q1 H
  rcases hA with rfl | ⟨h1, ⟨h2, h3, hsum, h4⟩, h5, hsux, h6⟩
  · go_wp2
    go_ret
    exact ⟨rfl, H1.out.2⟩
  have HB : Hid ((nr ≤ 1048576 ∧ n ≤ 1048576 ∧ ∀ i, i < n → SmallS (S i)) ∧ nt ≤ 1048576 ∧ ∀ i, i < nt → (T i).m ≤ 1048576) := ⟨⟨h2, h3, h4⟩, h5, h6⟩
  have HSU : Hid (sumN (sizeT S) n ≤ 1048576 ∧ sumN (sizeX T) nt ≤ 1048576) := ⟨hsum, hsux⟩
  have dr : decide (r < 0) = false := decide_eq_false (by omega)
  clear h1 h2 h3 h4 h5 h6 hr hn HN hnt hsum hsux
  obtain ⟨⟨p0, p1, p2, p3, p4, p5⟩, _⟩ := H1.out.1
  go_wp2_with fail
  refine (toWorld_any nw nx bd nr F n S V _ _ nt T X _ 0 _ (HG.out.1.later H1.out.2) (HG.out.2.later H1.out.2) HB.out.1 HB.out.2).mono ?_
  intro e w2 hN2
  obtain ⟨ra, rc, g, U, z, gt, Y, zt, rfl, o2, q2⟩ := hN2.own
  have H2 : Hid (Blk6 w2 w.heap.size (.int .i64 nw) (.int .i64 nx) (.int .i64 bd) (.slice a0 nr c0) (.slice a1 n c1) (.slice a2 nt c2) ∧ Below w.heap.size w w2) := ⟨H1.out.1.later q2, H1.out.2.trans (q2.mono H1.out.2.size)⟩
  have G2 := HF.out _ _ _ _ _ _ o2.grs.1 o2.grs.2 HB.out.1.1 HB.out.1.2.1 HB.out.2.1 HB.out.2.2
  clear q2 hN2 o2 H1 p0 p1 p2 p3 p4 p5
  go_wp2_with fail
  refine G2.1.mono ?_
  clear G2
  rintro e w3 ⟨ow, pw, rfl, rw3, _, q3⟩
  have H3 : Hid (Blk6 w3 w.heap.size (.int .i64 nw) (.int .i64 nx) (.int .i64 bd) (.slice a0 nr c0) (.slice a1 n c1) (.slice a2 nt c2) ∧ Below w.heap.size w w3) := ⟨H2.out.1.later q3, H2.out.2.trans (q3.mono H2.out.2.size)⟩
  have P3 : Hid (((Blk6 (w3.alloc (.cells #[.int .i64 c, .slice ow m pw] 34)) w.heap.size (.int .i64 nw) (.int .i64 nx) (.int .i64 bd) (.slice a0 nr c0) (.slice a1 n c1) (.slice a2 nt c2) ∧ Below w.heap.size w (w3.alloc (.cells #[.int .i64 c, .slice ow m pw] 34))) ∧ Blk2 (w3.alloc (.cells #[.int .i64 c, .slice ow m pw] 34)) w3.heap.size (.int .i64 c) (.slice ow m pw)) ∧ Row (w3.alloc (.cells #[.int .i64 c, .slice ow m pw] 34)) w.heap.size 2 m G (.slice ow m pw)) := ⟨⟨⟨H3.out.1.alloc _, H3.out.2.alloc H3.out.2.size _⟩, Blk2.new w3 _ _ _⟩, (rw3.mono H2.out.2.size).alloc _⟩
  have LW : Hid (0 < m → ∀ k, (Value.slice ow m pw).ownBlock = some k → k < w3.heap.size) := fun h0 k hk => (rw3.lt h0 k hk).2
  have z3 : Hid (w.heap.size < w3.heap.size) := H3.out.1.lt
  clear q3 rw3 H2 H3
  obtain ⟨⟨p0, p1, p2, p3, p4, p5⟩, _⟩ := P3.out.1.1.1
  go_wp2_with fail
  refine (toWorld_any nw nx bd nr F n S V _ _ nt T X _ 0 _ (HG.out.1.later P3.out.1.1.2) (HG.out.2.later P3.out.1.1.2) HB.out.1 HB.out.2).mono ?_
  intro e w4 hN4
  obtain ⟨rb, rd, g4, U4, z4, gt4, Y4, zt4, rfl, o4, q4⟩ := hN4.own
  have zs4 : Hid (w3.heap.size + 1 ≤ w4.heap.size ∧ zt4 nt ≤ w4.heap.size) := ⟨by have := q4.size; simp at this; omega, o4.2.2.2.2.2.2.2⟩
  have O4 : Hid (OwnW (w4.alloc (.cells #[.int .i64 nw, .int .i64 nx, .int .i64 bd, .slice rb nr rd, .slice (some ⟨g4, 0, none⟩) n n, .slice (some ⟨gt4, 0, none⟩) nt nt] 43)) (w3.heap.size + 1) nr F n S rb rd g4 U4 z4 nt T gt4 Y4 zt4) := by
    rw [World.size_alloc] at o4
    exact o4.later (below_alloc _ _)
  have P4 : Hid ((((Blk6 (w4.alloc (.cells #[.int .i64 nw, .int .i64 nx, .int .i64 bd, .slice rb nr rd, .slice (some ⟨g4, 0, none⟩) n n, .slice (some ⟨gt4, 0, none⟩) nt nt] 43)) w.heap.size (.int .i64 nw) (.int .i64 nx) (.int .i64 bd) (.slice a0 nr c0) (.slice a1 n c1) (.slice a2 nt c2) ∧ Below w.heap.size w (w4.alloc (.cells #[.int .i64 nw, .int .i64 nx, .int .i64 bd, .slice rb nr rd, .slice (some ⟨g4, 0, none⟩) n n, .slice (some ⟨gt4, 0, none⟩) nt nt] 43))) ∧ Blk2 (w4.alloc (.cells #[.int .i64 nw, .int .i64 nx, .int .i64 bd, .slice rb nr rd, .slice (some ⟨g4, 0, none⟩) n n, .slice (some ⟨gt4, 0, none⟩) nt nt] 43)) w3.heap.size (.int .i64 c) (.slice ow m pw)) ∧ Row (w4.alloc (.cells #[.int .i64 nw, .int .i64 nx, .int .i64 bd, .slice rb nr rd, .slice (some ⟨g4, 0, none⟩) n n, .slice (some ⟨gt4, 0, none⟩) nt nt] 43)) w.heap.size 2 m G (.slice ow m pw)) ∧ Blk6 (w4.alloc (.cells #[.int .i64 nw, .int .i64 nx, .int .i64 bd, .slice rb nr rd, .slice (some ⟨g4, 0, none⟩) n n, .slice (some ⟨gt4, 0, none⟩) nt nt] 43)) w4.heap.size (.int .i64 nw) (.int .i64 nx) (.int .i64 bd) (.slice rb nr rd) (.slice (some ⟨g4, 0, none⟩) n n) (.slice (some ⟨gt4, 0, none⟩) nt nt)) :=
    ⟨⟨⟨⟨(P3.out.1.1.1.later q4).alloc _, (P3.out.1.1.2.trans (q4.mono P3.out.1.1.2.size)).alloc (Nat.le_trans P3.out.1.1.2.size q4.size) _⟩, (P3.out.1.2.later q4).alloc _⟩, (P3.out.2.later q4).alloc _⟩, Blk6.new _ _ _ _ _ _ _ _⟩
  have s5 : Hid (w4.heap.size < (w4.alloc (.cells #[.int .i64 nw, .int .i64 nx, .int .i64 bd, .slice rb nr rd, .slice (some ⟨g4, 0, none⟩) n n, .slice (some ⟨gt4, 0, none⟩) nt nt] 43)).heap.size) := by unfold Hid; simp
  clear q4 hN4 o4 P3 p0 p1 p2 p3 p4 p5
  go_wp2_with fail
  generalize w4.alloc (.cells #[.int .i64 nw, .int .i64 nx, .int .i64 bd, .slice rb nr rd, .slice (some ⟨g4, 0, none⟩) n n, .slice (some ⟨gt4, 0, none⟩) nt nt] 43) = w5 at O4 P4 s5 ⊢
  refine (HF.out _ _ _ _ _ _ O4.out.grs.1 O4.out.grs.2 HB.out.1.1 HB.out.1.2.1 HB.out.2.1 HB.out.2.2).2.mono ?_
  rintro e w6 ⟨og, pg, rfl, rg6, fg6, q6⟩
  have E6 : Hid (EnvC w nw nx bd (.slice a0 nr c0) (.slice a1 n c1) (.slice a2 nt c2) w3.heap.size c (.slice ow m pw) w4.heap.size (.slice rb nr rd) (.slice (some ⟨g4, 0, none⟩) n n) (.slice (some ⟨gt4, 0, none⟩) nt nt) w6.heap.size (.slice og m pg) m G w5.heap.size (w6.alloc (.cells #[.int .i64 c, .slice og m pg] 34))) :=
    ⟨(P4.out.1.1.1.2.trans (q6.mono P4.out.1.1.1.2.size)).alloc (Nat.le_trans P4.out.1.1.1.2.size q6.size) _, (P4.out.1.1.1.1.later q6).alloc _, (P4.out.1.1.2.later q6).alloc _, (P4.out.2.later q6).alloc _, Blk2.new _ _ _ _, (P4.out.1.2.later q6).alloc _, rg6.alloc _, fg6.ofRow rg6 (below_alloc _ _)⟩
  have O6 : Hid (OwnW (w6.alloc (.cells #[.int .i64 c, .slice og m pg] 34)) (w3.heap.size + 1) nr F n S rb rd g4 U4 z4 nt T gt4 Y4 zt4) := (O4.out.later q6).later (below_alloc _ _)
  have LG : Hid ((0 < m → ∀ k, (Value.slice og m pg).ownBlock = some k → w5.heap.size ≤ k ∧ k < w6.heap.size) ∧ w5.heap.size ≤ w6.heap.size) := ⟨fun h0 k hk => rg6.lt h0 k hk, q6.size⟩
  obtain ⟨⟨t0, t1⟩, _⟩ := P4.out.1.1.2.later q6
  have hl := (P4.out.1.1.2.later q6).lt
  clear q6 rg6 fg6 O4 P4
  go_wp2_with fail
  refine (eqDonesResult_same c m _ _ _ _ _ _ G _ E6.out.rg E6.out.rw hm).mono ?_
  rintro e w7 ⟨rfl, q7⟩
  have E7 : Hid (EnvC w nw nx bd (.slice a0 nr c0) (.slice a1 n c1) (.slice a2 nt c2) w3.heap.size c (.slice ow m pw) w4.heap.size (.slice rb nr rd) (.slice (some ⟨g4, 0, none⟩) n n) (.slice (some ⟨gt4, 0, none⟩) nt nt) w6.heap.size (.slice og m pg) m G w5.heap.size w7) := E6.out.later q7
  have O7 : Hid (OwnW w7 (w3.heap.size + 1) nr F n S rb rd g4 U4 z4 nt T gt4 Y4 zt4) := O6.out.later q7
  clear q7 E6 O6 t0 t1 hl
  go_wp2_with fail
  refine wp_region_held_drew (S := fun x : World => (EnvC w nw nx bd (.slice a0 nr c0) (.slice a1 n c1) (.slice a2 nt c2) w3.heap.size c (.slice ow m pw) w4.heap.size (.slice rb nr rd) (.slice (some ⟨g4, 0, none⟩) n n) (.slice (some ⟨gt4, 0, none⟩) nt nt) w6.heap.size (.slice og m pg) m G w5.heap.size x) ∧ OwnW x (w3.heap.size + 1) nr F n S rb rd g4 U4 z4 nt T gt4 Y4 zt4) (by kernel_rfl) ⟨E7.out.later (Below.drew (Below.refl _ _)), O7.out.later (Below.drew (Below.refl _ _))⟩ (fun hS => ?_)
  clear E7 O7
  refine tkH 0 ?_ hS (fun wx hx => ?_) ?_; rotate_left
  · obtain ⟨⟨hx0, hx1, hx2, hx3, hx4, hx5⟩, _⟩ := hx.1.arg; obtain ⟨⟨hy0, hy1, hy2, hy3, hy4, hy5⟩, _⟩ := hx.1.copy; go_simp; try with_reducible rfl
  refine tkH 1 ?_ hS (fun wx hx => ?_) ?_; rotate_left
  · obtain ⟨⟨hx0, hx1, hx2, hx3, hx4, hx5⟩, _⟩ := hx.1.arg; obtain ⟨⟨hy0, hy1, hy2, hy3, hy4, hy5⟩, _⟩ := hx.1.copy; go_simp; try with_reducible rfl
  refine rdH 2 (fun K hK => ?_)
  go_simp
  go_wp2_with fail
  refine (toWorld_any nw nx bd nr F n S V _ _ nt T X _ 0 _ (HG.out.1.later hS.1.below) (HG.out.2.later hS.1.below) HB.out.1 HB.out.2).mono ?_
  intro e w8 hN8
  obtain ⟨re, rf, g8, U8, z8, gt8, Y8, zt8, rfl, o8, q8⟩ := hN8.own
  have G8 : Hid (Grs w8 0 nr F n S U8 (.slice re nr rf) (.slice (some ⟨g8, 0, none⟩) n n) ∧ Txs w8 0 nt T Y8 (.slice (some ⟨gt8, 0, none⟩) nt nt)) := o8.grs
  have hS' := (show _ ∧ _ from ⟨hS.1.later q8, hS.2.later q8⟩)
  clear q8 hN8 o8
  go_wp2_with fail
  refine hK.out _ _ hS' (fun hS => ?_)
  clear hK K hS'
  refine rdH 3 (fun K hK => ?_)
  go_simp
  go_wp2_with fail
  refine (eqWorldT_same nw nx bd nr F n S U4 U8 _ _ _ _ _ _ _ _ nt T Y4 Y8 _ _ _ _ 0 0 _ hS.2.grs.1 G8.out.1 hS.2.grs.2 G8.out.2 HB.out.1 HB.out.2).mono ?_
  rintro e w9 ⟨rfl, q9⟩
  have hS' := (show _ ∧ _ from ⟨hS.1.later q9, hS.2.later q9⟩)
  clear q9 G8
  go_wp2_with fail
  refine hK.out _ _ hS' (fun hS => ?_)
  clear hK K hS'
  refine tkH 4 ?_ hS (fun wx hx => ?_) ?_; rotate_left
  · obtain ⟨⟨hx0, hx1, hx2, hx3, hx4, hx5⟩, _⟩ := hx.1.arg; obtain ⟨⟨hy0, hy1, hy2, hy3, hy4, hy5⟩, _⟩ := hx.1.copy; go_simp; try with_reducible rfl
  refine wpAnyH_done (by kernel_rfl) ?_ _
  have E9 : Hid (EnvC w nw nx bd (.slice a0 nr c0) (.slice a1 n c1) (.slice a2 nt c2) w3.heap.size c (.slice ow m pw) w4.heap.size (.slice rb nr rd) (.slice (some ⟨g4, 0, none⟩) n n) (.slice (some ⟨gt4, 0, none⟩) nt nt) w6.heap.size (.slice og m pg) m G w5.heap.size w9) := hS.1
  have O9 : Hid (OwnW w9 (w3.heap.size + 1) nr F n S rb rd g4 U4 z4 nt T gt4 Y4 zt4) := hS.2
  clear hS
  go_simp
  obtain ⟨⟨p0, p1, p2, p3, p4, p5⟩, _⟩ := E9.out.copy
  go_wp2_with fail
  refine (markWorld_any nw nx bd _ nr F n S rb rd g4 U4 z4 nt T gt4 Y4 zt4 _ O9.out HB.out HSU.out).mono ?_
  rintro e wA ⟨kA, hkA, rfl, WA⟩
  have dk : decide (kA < 0) = false := decide_eq_false (by omega)
  have EA : Hid (EnvC w nw nx bd (.slice a0 nr c0) (.slice a1 n c1) (.slice a2 nt c2) w3.heap.size c (.slice ow m pw) w4.heap.size (.slice rb nr rd) (.slice (some ⟨g4, 0, none⟩) n n) (.slice (some ⟨gt4, 0, none⟩) nt nt) w6.heap.size (.slice og m pg) m G w5.heap.size wA) := E9.out.within WA (by have := z3.out; omega) (by omega) (by have := zs4.out.2; omega) (by have := zs4.out.2; have := s5.out; have := LG.out.2; omega) (fun h0 k hk => by have := LW.out h0 k hk; omega) (fun h0 k hk => by have := (LG.out.1 h0 k hk).1; have := zs4.out.2; have := s5.out; omega)
  clear WA hkA E9 O9 p0 p1 p2 p3 p4 p5
  obtain ⟨⟨t0, t1⟩, _⟩ := EA.out.want
  obtain ⟨⟨g0, g1⟩, _⟩ := EA.out.got
  go_wp2_with fail
  refine (eqDonesResult_same c m _ _ _ _ _ _ G _ EA.out.rg EA.out.rw hm).mono ?_
  rintro e wB ⟨rfl, qB⟩
  have EB : Hid (EnvC w nw nx bd (.slice a0 nr c0) (.slice a1 n c1) (.slice a2 nt c2) w3.heap.size c (.slice ow m pw) w4.heap.size (.slice rb nr rd) (.slice (some ⟨g4, 0, none⟩) n n) (.slice (some ⟨gt4, 0, none⟩) nt nt) w6.heap.size (.slice og m pg) m G w5.heap.size wB) := EA.out.later qB
  clear qB EA t0 t1 g0 g1
  obtain ⟨⟨g0, g1⟩, _⟩ := EB.out.got
  go_wp2_with fail
  refine (markDonesResult_any c m _ _ _ G _ EB.out.rg EB.out.fg hm).mono ?_
  rintro e wC ⟨rfl, mC, gC⟩
  have WC : Within w5.heap.size w6.heap.size wB wC := Within.of gC (turn_off LG.out.1)
  have EC : Hid ((Below w.heap.size w wC ∧ Blk6 wC w.heap.size (.int .i64 nw) (.int .i64 nx) (.int .i64 bd) (.slice a0 nr c0) (.slice a1 n c1) (.slice a2 nt c2)) ∧ (Blk2 wC w3.heap.size (.int .i64 c) (.slice ow m pw) ∧ Row wC w.heap.size 2 m G (.slice ow m pw)) ∧ Blk2 wC w6.heap.size (.int .i64 c) (.slice og m pg) ∧ Row wC w5.heap.size 2 m (fun p => 1 + (p : Nat)) (.slice og m pg)) := by
    have a1 := z3.out
    have a2 := zs4.out.1
    have a3 := s5.out
    exact ⟨⟨WC.below EB.out.below (by omega), EB.out.arg.kept (WC.block _ EB.out.arg.lt (Or.inl (by omega)))⟩, ⟨EB.out.want.kept (WC.block _ EB.out.want.lt (Or.inl (by omega))), EB.out.rw.within WC (fun h0 k hk => Or.inl (by have := LW.out h0 k hk; omega))⟩, EB.out.got.kept (WC.block _ EB.out.got.lt (Or.inr (Nat.le_refl _))), mC⟩
  clear WC gC mC EB g0 g1
  obtain ⟨⟨g0, g1⟩, _⟩ := EC.out.2.2.1
  go_wp2_with fail
  refine (heldDonesResult_any c m _ _ _ _ EC.out.2.2.2 hm).mono ?_
  rintro e wD ⟨rfl, qD⟩
  have ED : Hid ((Below w.heap.size w wD ∧ Blk6 wD w.heap.size (.int .i64 nw) (.int .i64 nx) (.int .i64 bd) (.slice a0 nr c0) (.slice a1 n c1) (.slice a2 nt c2)) ∧ (Blk2 wD w3.heap.size (.int .i64 c) (.slice ow m pw) ∧ Row wD w.heap.size 2 m G (.slice ow m pw)) ∧ Blk2 wD w6.heap.size (.int .i64 c) (.slice og m pg) ∧ Row wD w5.heap.size 2 m (fun p => 1 + (p : Nat)) (.slice og m pg)) := ⟨⟨EC.out.1.1.trans (qD.mono EC.out.1.1.size), EC.out.1.2.later qD⟩, ⟨EC.out.2.1.1.later qD, EC.out.2.1.2.later qD⟩, EC.out.2.2.1.later qD, EC.out.2.2.2.later qD⟩
  clear qD EC g0 g1
  obtain ⟨⟨p0, p1, p2, p3, p4, p5⟩, _⟩ := ED.out.1.2
  go_wp2_with fail
  refine (toWorld_any nw nx bd nr F n S V _ _ nt T X _ 0 _ (HG.out.1.later ED.out.1.1) (HG.out.2.later ED.out.1.1) HB.out.1 HB.out.2).mono ?_
  intro e wE hNE
  obtain ⟨rg, rh, gE, UE, zE, gtE, YE, ztE, rfl, oE, qE⟩ := hNE.own
  have EE : Hid (Below w.heap.size w wE ∧ (Blk2 wE w3.heap.size (.int .i64 c) (.slice ow m pw) ∧ Row wE w.heap.size 2 m G (.slice ow m pw)) ∧ Blk2 wE w6.heap.size (.int .i64 c) (.slice og m pg) ∧ Row wE w5.heap.size 2 m (fun p => 1 + (p : Nat)) (.slice og m pg)) := ⟨ED.out.1.1.trans (qE.mono ED.out.1.1.size), ⟨ED.out.2.1.1.later qE, ED.out.2.1.2.later qE⟩, ED.out.2.2.1.later qE, ED.out.2.2.2.later qE⟩
  have GE := HF.out _ _ _ _ _ _ oE.grs.1 oE.grs.2 HB.out.1.1 HB.out.1.2.1 HB.out.2.1 HB.out.2.2
  clear qE hNE oE ED p0 p1 p2 p3 p4 p5
  go_wp2_with fail
  refine GE.2.mono ?_
  clear GE
  rintro e wF ⟨oh, ph, rfl, rhF, _, qF⟩
  have EF : Hid (Below w.heap.size w (wF.alloc (.cells #[.int .i64 c, .slice oh m ph] 34)) ∧ Row (wF.alloc (.cells #[.int .i64 c, .slice oh m ph] 34)) w.heap.size 2 m G (.slice ow m pw) ∧ Blk2 (wF.alloc (.cells #[.int .i64 c, .slice oh m ph] 34)) w6.heap.size (.int .i64 c) (.slice og m pg) ∧ Row (wF.alloc (.cells #[.int .i64 c, .slice oh m ph] 34)) w5.heap.size 2 m (fun p => 1 + (p : Nat)) (.slice og m pg) ∧ Row (wF.alloc (.cells #[.int .i64 c, .slice oh m ph] 34)) 0 2 m G (.slice oh m ph)) := ⟨(EE.out.1.trans (qF.mono EE.out.1.size)).alloc (Nat.le_trans EE.out.1.size qF.size) _, (EE.out.2.1.2.later qF).alloc _, (EE.out.2.2.1.later qF).alloc _, (EE.out.2.2.2.later qF).alloc _, (rhF.mono (Nat.zero_le _)).alloc _⟩
  obtain ⟨⟨t0, t1⟩, _⟩ := EE.out.2.1.1.later qF
  have hl := (EE.out.2.1.1.later qF).lt
  clear qF rhF EE
  go_wp2_with fail
  refine (eqDonesResult_same c m _ _ _ _ _ _ G _ EF.out.2.2.2.2 EF.out.2.1 hm).mono ?_
  rintro e wG ⟨rfl, qG⟩
  have EG : Hid (Below w.heap.size w wG ∧ Blk2 wG w6.heap.size (.int .i64 c) (.slice og m pg) ∧ Row wG w5.heap.size 2 m (fun p => 1 + (p : Nat)) (.slice og m pg)) := ⟨EF.out.1.trans (qG.mono EF.out.1.size), EF.out.2.2.1.later qG, EF.out.2.2.2.1.later qG⟩
  clear qG EF t0 t1 hl
  obtain ⟨⟨g0, g1⟩, _⟩ := EG.out.2.1
  go_wp2_with fail
  refine (heldDonesResult_any c m _ _ _ _ EG.out.2.2 hm).mono ?_
  rintro e wH ⟨rfl, qH⟩
  have EH : Hid (Below w.heap.size w wH) := EG.out.1.trans (qH.mono EG.out.1.size)
  clear qH EG g0 g1
  go_wp2
  go_ret
  exact ⟨rfl, EH.out⟩
end Go.Proofs.YtdbcmckoiacemaaGreat

