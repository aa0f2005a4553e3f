/-
  Own text, merged of WldF, TxsC, GrpF, AppR, GrpG, ColsQ.
-/
import Derived.Test.YtpfmifpjmcmlaaaGreatPk4
namespace Go.Proofs.YtpfmifpjmcmlaaaGreat
open Go.RowKit

/-- The three blocks of toWorld: the box, the answer, what is laid. -/
def ToW (w : World) (v0 v1 v2 v3 v4 v5 u0 u1 u2 u3 u4 u5 : Value) (x : World) : Prop :=
  Below w.heap.size w x ∧ Blk6 x w.heap.size v0 v1 v2 v3 v4 v5 ∧ Blk6 x (w.heap.size + 1) (.int .i64 0) (.int .i64 0) (.int .i64 0) (.slice none 0 0) (.slice none 0 0) (.slice none 0 0) ∧ Blk6 x (w.heap.size + 2) u0 u1 u2 u3 u4 u5
theorem ToW.later {w : World} {v0 v1 v2 v3 v4 v5 u0 u1 u2 u3 u4 u5 : Value} {x x' : World} (h : ToW w v0 v1 v2 v3 v4 v5 u0 u1 u2 u3 u4 u5 x) (hb : Below x.heap.size x x') : ToW w v0 v1 v2 v3 v4 v5 u0 u1 u2 u3 u4 u5 x' :=
  ⟨h.1.trans (hb.mono h.1.size), h.2.1.later hb, h.2.2.1.later hb, h.2.2.2.later hb⟩
theorem hid_mkE {p : Prop} (h : p) : Hid p := h
theorem size_set (x : World) (a : Addr) (u : Value) : (x.setCell a u).heap.size = x.heap.size := by simp [World.setCell]
theorem FineG.farE {w : World} {lo nr : Nat} {F : Nat → Int} {n : Nat} {S : Nat → Sto} {ra : Option Addr} {rc g : Nat} {U : Nat → Nat → Value} {z : Nat → Nat} (h : FineG w lo nr F n S ra rc g U z) {b j : Nat} (hb : b < lo) (u : Value) : FineG (w.setCell ⟨b, j, none⟩ u) lo nr F n S ra rc g U z := by
  obtain ⟨⟨h1, h2, h3⟩, h4, h5, h6, h7, h8, h9⟩ := h
  exact ⟨⟨h1.far (Or.inl (by show b < lo; exact hb)) _, h2.far _ _, h3⟩, h4, h5.far (by show g ≠ b; omega) _, h6.far (fun i hi => by show b < z i; have := h8 i (by omega); omega) _, h7, h8, by rw [size_set]; exact h9⟩
theorem FineG.monoE {w : World} {lo lo' nr : Nat} {F : Nat → Int} {n : Nat} {S : Nat → Sto} {ra : Option Addr} {rc g : Nat} {U : Nat → Nat → Value} {z : Nat → Nat} (h : FineG w lo nr F n S ra rc g U z) (hl : lo' ≤ lo) : FineG w lo' nr F n S ra rc g U z :=
  ⟨⟨h.1.1.mono hl, h.1.2⟩, Nat.le_trans hl h.2.1, h.2.2⟩
theorem FillT.farE {w : World} {g n k : Nat} {T : Nat → Tx} {U : Nat → Value} (h : FillT w g n k T U) {b j : Nat} (hb : g ≠ b) (u : Value) : FillT (w.setCell ⟨b, j, none⟩ u) g n k T U := by
  have hk : ∀ p, (w.setCell ⟨b, j, none⟩ u).cell? ⟨g, p, none⟩ = w.cell? ⟨g, p, none⟩ := fun p => World.cell?_of_block (w := w) (a := ⟨g, p, none⟩) (Below.heap_setCell w ⟨b, j, none⟩ u g hb)
  refine ⟨by rw [size_set]; exact h.1, fun p hp => ⟨⟨?_, by simp only [World.frozen?_setCell]; exact (h.2 p hp).1.2⟩, fun d => (hk p).trans ((h.2 p hp).2 d)⟩⟩
  obtain ⟨v, hv⟩ := (h.2 p hp).1.1
  exact ⟨v, (hk p).trans hv⟩
set_option maxRecDepth 100000 in
set_option maxHeartbeats 4000000 in
theorem toWorld_any (nw nx bd : Int) (nr : Nat) (F : Nat → Int) (n : Nat) (S : Nat → Sto) (V : Nat → Nat → Value) (vr vs : Value) (nt : Nat) (T : Nat → Tx) (X : Nat → Value) (vt : Value) (B : Nat) (w : World) (h : Grs w B nr F n S V vr vs) (ht : Txs w B nt T X vt) (hs : nr ≤ 1048576 ∧ n ≤ 1048576 ∧ ∀ i, i < n → SmallS (S i)) (hx : nt ≤ 1048576 ∧ ∀ i, i < nt → (T i).m ≤ 1048576) :
    Calls Tryz.prog 10 #[.agg #[.int .i64 nw, .int .i64 nx, .int .i64 bd, vr, vs, vt]] w (NewWd w nw nx bd nr F n S nt T) := by
  obtain ⟨a0, c0, a1, c1, rfl, rfl⟩ := h.form
  obtain ⟨at', ct, rfl⟩ := ht.form
  have H : Hid (Grs w B nr F n S V (.slice a0 nr c0) (.slice a1 n c1) ∧ Txs w B nt T X (.slice at' nt ct)) := ⟨h, ht⟩
  have HN : Hid ((nr ≤ 1048576 ∧ n ≤ 1048576 ∧ ∀ i, i < n → SmallS (S i)) ∧ nt ≤ 1048576 ∧ ∀ i, i < nt → (T i).m ≤ 1048576) := ⟨hs, hx⟩
  have W0 : Hid (ToW w (.int .i64 nw) (.int .i64 nx) (.int .i64 bd) (.slice a0 nr c0) (.slice a1 n c1) (.slice at' nt ct) (.int .i64 nw) (.int .i64 0) (.int .i64 0) (.slice none 0 0) (.slice none 0 0) (.slice none 0 0) (((w.alloc (.cells #[.int .i64 nw, .int .i64 nx, .int .i64 bd, .slice a0 nr c0, .slice a1 n c1, .slice at' nt ct] 30)).alloc (.cells #[.int .i64 0, .int .i64 0, .int .i64 0, .slice none 0 0, .slice none 0 0, .slice none 0 0] 40)).alloc (.cells #[.int .i64 nw, .int .i64 0, .int .i64 0, .slice none 0 0, .slice none 0 0, .slice none 0 0] 40))) := by
    have k1 := Blk6.new (w.alloc (.cells #[.int .i64 nw, .int .i64 nx, .int .i64 bd, .slice a0 nr c0, .slice a1 n c1, .slice at' nt ct] 30)) (.int .i64 0) (.int .i64 0) (.int .i64 0) (.slice none 0 0) (.slice none 0 0) (.slice none 0 0) 40
    have k2 := Blk6.new ((w.alloc (.cells #[.int .i64 nw, .int .i64 nx, .int .i64 bd, .slice a0 nr c0, .slice a1 n c1, .slice at' nt ct] 30)).alloc (.cells #[.int .i64 0, .int .i64 0, .int .i64 0, .slice none 0 0, .slice none 0 0, .slice none 0 0] 40)) (.int .i64 nw) (.int .i64 0) (.int .i64 0) (.slice none 0 0) (.slice none 0 0) (.slice none 0 0) 40
    rw [World.size_alloc] at k1
    rw [World.size_alloc, World.size_alloc] at k2
    exact ⟨((below_alloc _ _).alloc (by simp) _).alloc (by simp; omega) _, ((Blk6.new w _ _ _ _ _ _ _).alloc _).alloc _, k1.alloc _, k2⟩
  clear h ht hs hx
  go_enter Tryz.func10, Tryz.ntmps10
  go_wp2_with fail
  generalize ((w.alloc (.cells #[.int .i64 nw, .int .i64 nx, .int .i64 bd, .slice a0 nr c0, .slice a1 n c1, .slice at' nt ct] 30)).alloc (.cells #[.int .i64 0, .int .i64 0, .int .i64 0, .slice none 0 0, .slice none 0 0, .slice none 0 0] 40)).alloc (.cells #[.int .i64 nw, .int .i64 0, .int .i64 0, .slice none 0 0, .slice none 0 0, .slice none 0 0] 40) = x0 at W0 ⊢
  refine (toOracle_any nx bd _).mono ?_
  rintro e y1 ⟨rfl, q1⟩
  have W1 : Hid (ToW w (.int .i64 nw) (.int .i64 nx) (.int .i64 bd) (.slice a0 nr c0) (.slice a1 n c1) (.slice at' nt ct) (.int .i64 nw) (.int .i64 0) (.int .i64 0) (.slice none 0 0) (.slice none 0 0) (.slice none 0 0) y1) := W0.out.later q1
  have W1' : Hid (ToW w (.int .i64 nw) (.int .i64 nx) (.int .i64 bd) (.slice a0 nr c0) (.slice a1 n c1) (.slice at' nt ct) (.int .i64 nw) (.int .i64 nx) (.int .i64 bd) (.slice none 0 0) (.slice none 0 0) (.slice none 0 0) ((y1.setCell ⟨w.heap.size + 2, 1, none⟩ (.int .i64 nx)).setCell ⟨w.heap.size + 2, 2, none⟩ (.int .i64 bd))) := ⟨(W1.out.1.setCell (by show w.heap.size ≤ w.heap.size + 2; omega) _).setCell (by show w.heap.size ≤ w.heap.size + 2; omega) _, (W1.out.2.1.farE (by show w.heap.size ≠ w.heap.size + 2; omega) _).farE (by show w.heap.size ≠ w.heap.size + 2; omega) _, (W1.out.2.2.1.farE (by show w.heap.size + 1 ≠ w.heap.size + 2; omega) _).farE (by show w.heap.size + 1 ≠ w.heap.size + 2; omega) _, W1.out.2.2.2.put12 _ _⟩
  obtain ⟨_, ⟨⟨b0, b1, b2, b3, b4, b5⟩, _⟩, _, ⟨⟨o0, o1, o2, o3, o4, o5⟩, p0, p1, p2, p3, p4, p5⟩⟩ := W1.out
  clear q1 W0
  go_wp2_with fail
  clear b0 b1 b2 b3 b4 b5 o0 o1 o2 o3 o4 o5 p0 p1 p2 p3 p4 p5 W1
  generalize (y1.setCell ⟨w.heap.size + 2, 1, none⟩ (.int .i64 nx)).setCell ⟨w.heap.size + 2, 2, none⟩ (.int .i64 bd) = x1 at W1' ⊢
  refine (toGroups_any nr F n S V _ _ B _ (H.out.1.later W1'.out.1) HN.out.1.1 HN.out.1.2.1 HN.out.1.2.2).mono ?_
  rintro e y2 ⟨ra, rc, g, U, z, rfl, hg, q2⟩
  have W2 : Hid (ToW w (.int .i64 nw) (.int .i64 nx) (.int .i64 bd) (.slice a0 nr c0) (.slice a1 n c1) (.slice at' nt ct) (.int .i64 nw) (.int .i64 nx) (.int .i64 bd) (.slice none 0 0) (.slice none 0 0) (.slice none 0 0) y2) := W1'.out.later q2
  have lo : Hid (w.heap.size + 3 ≤ x1.heap.size) := W1'.out.2.2.2.lt
  have W2' : Hid (ToW w (.int .i64 nw) (.int .i64 nx) (.int .i64 bd) (.slice a0 nr c0) (.slice a1 n c1) (.slice at' nt ct) (.int .i64 nw) (.int .i64 nx) (.int .i64 bd) (.slice ra nr rc) (.slice (some ⟨g, 0, none⟩) n n) (.slice none 0 0) ((y2.setCell ⟨w.heap.size + 2, 3, none⟩ (.slice ra nr rc)).setCell ⟨w.heap.size + 2, 4, none⟩ (.slice (some ⟨g, 0, none⟩) n n))) := ⟨(W2.out.1.setCell (by show w.heap.size ≤ w.heap.size + 2; omega) _).setCell (by show w.heap.size ≤ w.heap.size + 2; omega) _, (W2.out.2.1.farE (by show w.heap.size ≠ w.heap.size + 2; omega) _).farE (by show w.heap.size ≠ w.heap.size + 2; omega) _, (W2.out.2.2.1.farE (by show w.heap.size + 1 ≠ w.heap.size + 2; omega) _).farE (by show w.heap.size + 1 ≠ w.heap.size + 2; omega) _, W2.out.2.2.2.put34 _ _⟩
  have G2 : Hid (FineG ((y2.setCell ⟨w.heap.size + 2, 3, none⟩ (.slice ra nr rc)).setCell ⟨w.heap.size + 2, 4, none⟩ (.slice (some ⟨g, 0, none⟩) n n)) x1.heap.size nr F n S ra rc g U z) := (hg.farE (by have := lo.out; omega) _).farE (by have := lo.out; omega) _
  obtain ⟨_, ⟨⟨b0, b1, b2, b3, b4, b5⟩, _⟩, _, ⟨⟨o0, o1, o2, o3, o4, o5⟩, p0, p1, p2, p3, p4, p5⟩⟩ := W2.out
  clear q2 hg W1'
  go_wp2_with fail
  clear b0 b1 b2 b3 b4 b5 o0 o1 o2 o3 o4 o5 p0 p1 p2 p3 p4 p5 W2
  generalize (y2.setCell ⟨w.heap.size + 2, 3, none⟩ (.slice ra nr rc)).setCell ⟨w.heap.size + 2, 4, none⟩ (.slice (some ⟨g, 0, none⟩) n n) = x2 at W2' G2 ⊢
  refine (toTxnS_any nt T X _ B _ (H.out.2.later W2'.out.1) HN.out.2.1 HN.out.2.2).mono ?_
  rintro e y3 ⟨gt, Y, zt, rfl, hgt, FT, ⟨fine, ft0, ft1, ft2⟩, q3⟩
  have W3 : Hid (ToW w (.int .i64 nw) (.int .i64 nx) (.int .i64 bd) (.slice a0 nr c0) (.slice a1 n c1) (.slice at' nt ct) (.int .i64 nw) (.int .i64 nx) (.int .i64 bd) (.slice ra nr rc) (.slice (some ⟨g, 0, none⟩) n n) (.slice none 0 0) y3) := W2'.out.later q3
  have G3 : Hid (FineG y3 x1.heap.size nr F n S ra rc g U z ∧ z n ≤ gt) := ⟨G2.out.later q3, Nat.le_trans G2.out.2.2.2.2.2.2 hgt.1⟩
  have TT : Hid ((gt < y3.heap.size ∧ FillT y3 gt nt nt T Y ∧ FineT y3 zt nt T Y ∧ zt 0 = gt + 1 ∧ (∀ i, i ≤ nt → gt < zt i) ∧ zt nt ≤ y3.heap.size) ∧ x1.heap.size ≤ gt) := ⟨⟨hgt.2, FT, fine, ft0, ft1, ft2⟩, by have := G2.out.2.1; have := G2.out.2.2.2.2.2.1 n (Nat.le_refl _); have := G3.out.2; omega⟩
  have KL := hid_mkE ((W3.out.2.2.1.farE (p := ⟨w.heap.size + 2, 5, none⟩) (by show w.heap.size + 1 ≠ w.heap.size + 2; omega) (.slice (some ⟨gt, 0, none⟩) nt nt)).putAll (.int .i64 nw) (.int .i64 nx) (.int .i64 bd) (.slice ra nr rc) (.slice (some ⟨g, 0, none⟩) n n) (.slice (some ⟨gt, 0, none⟩) nt nt))
  obtain ⟨_, _, ⟨⟨d0, d1, d2, d3, d4, d5⟩, e0, e1, e2, e3, e4, e5⟩, ⟨⟨o0, o1, o2, o3, o4, o5⟩, p0, p1, p2, p3, p4, p5⟩⟩ := W3.out
  clear q3 FT fine ft0 ft1 ft2 hgt W2' G2
  go_wp2
  obtain ⟨⟨k0, k1, k2, k3, k4, k5⟩, _⟩ := KL.out
  have hlo := lo.out
  have htl := TT.out.2
  refine bodyPost_ret (v := .agg #[.int .i64 nw, .int .i64 nx, .int .i64 bd, .slice ra nr rc, .slice (some ⟨g, 0, none⟩) n n, .slice (some ⟨gt, 0, none⟩) nt nt]) (by simp [results, Tryz.results10, go_sem, k0, k1, k2, k3, k4, k5]) rfl ⟨ra, rc, g, U, z, gt, Y, zt, rfl, ?_, ?_, ?_⟩
  · have s : ∀ {y : World} (b j : Nat) (u : Value), b < x1.heap.size → FineG y x1.heap.size nr F n S ra rc g U z → FineG (y.setCell ⟨b, j, none⟩ u) x1.heap.size nr F n S ra rc g U z := fun b j u hb q => q.farE hb u
    exact FineG.monoE (s _ _ _ (by omega) (s _ _ _ (by omega) (s _ _ _ (by omega) (s _ _ _ (by omega) (s _ _ _ (by omega) (s _ _ _ (by omega) (s _ _ _ (by omega) G3.out.1))))))) (by omega)
  · have s : ∀ {y : World} (b j : Nat) (u : Value), b < x1.heap.size → (gt < y.heap.size ∧ FillT y gt nt nt T Y ∧ FineT y zt nt T Y ∧ zt 0 = gt + 1 ∧ (∀ i, i ≤ nt → gt < zt i) ∧ zt nt ≤ y.heap.size) → (gt < (y.setCell ⟨b, j, none⟩ u).heap.size ∧ FillT (y.setCell ⟨b, j, none⟩ u) gt nt nt T Y ∧ FineT (y.setCell ⟨b, j, none⟩ u) zt nt T Y ∧ zt 0 = gt + 1 ∧ (∀ i, i ≤ nt → gt < zt i) ∧ zt nt ≤ (y.setCell ⟨b, j, none⟩ u).heap.size) := fun b j u hb q => ⟨by rw [size_set]; exact q.1, q.2.1.farE (by omega) _, q.2.2.1.far (fun i hi => by show b < zt i; have := q.2.2.2.2.1 i (by omega); omega) _, q.2.2.2.1, q.2.2.2.2.1, by rw [size_set]; exact q.2.2.2.2.2⟩
    exact ⟨G3.out.2, s _ _ _ (by omega) (s _ _ _ (by omega) (s _ _ _ (by omega) (s _ _ _ (by omega) (s _ _ _ (by omega) (s _ _ _ (by omega) (s _ _ _ (by omega) TT.out.1))))))⟩
  · have s : ∀ {y : World} (b j : Nat) (u : Value), w.heap.size ≤ b → Below w.heap.size w y → Below w.heap.size w (y.setCell ⟨b, j, none⟩ u) := fun b j u hb q => q.setCell (by show w.heap.size ≤ b; exact hb) u
    exact s _ _ _ (by omega) (s _ _ _ (by omega) (s _ _ _ (by omega) (s _ _ _ (by omega) (s _ _ _ (by omega) (s _ _ _ (by omega) (s _ _ _ (by omega) W3.out.1))))))
end Go.Proofs.YtpfmifpjmcmlaaaGreat

namespace Go.Proofs.YtpfmifpjmcmlaaaGreat
open Go.RowKit

set_option maxRecDepth 100000 in
set_option maxHeartbeats 4000000 in
theorem szStoreS_lim (n : Nat) (S : Nat → Sto) (V : Nat → Nat → Value) (v : Value) (B : Nat) (left : Int) (w : World) (h : Stos w B n S V v) (hn : n ≤ 9223372036854775807) (hs : ∀ i, i < n → BigS (S i)) (h0 : 0 ≤ left) (h2 : left ≤ 1048576) :
    Calls Tryz.prog 65 #[v, .int .i64 left] w fun e w' => ∃ r, e = .returned (.int .i64 r) ∧ (SzAns n S left r ∧ r ≤ left) ∧ Below w.heap.size w w' := by
  obtain ⟨ao, cp, rfl⟩ := h.form
  have H : Hid (Stos w B n S V (.slice ao n cp)) := h
  have HN : Hid (∀ i, i < n → BigS (S i)) := hs
  clear h hs
  by_cases hl : left < n
  · have d : decide (left - n < 0) = true := decide_eq_true (by omega)
    go_enter Tryz.func65, Tryz.ntmps65
    go_wp2
    go_ret
    exact ⟨-1, rfl, ⟨Or.inl rfl, by omega⟩, Below.refl _ _⟩
  have d : decide (left - n < 0) = false := decide_eq_false (by omega)
  go_enter Tryz.func65, Tryz.ntmps65
  go_wp2
  go_loopw [1, 5] (fun j i wr => ∃ (k : Nat) (L : Int), k ≤ n ∧ j = .int .i64 L ∧ i = .int .i64 k ∧ Hid ((0 ≤ L ∧ L + (sumN (sizeT S) k : Nat) ≤ left) ∧ ∀ i, i < k → SmallS (S i)) ∧ Hid (Below w.heap.size w wr)) (fun _ i _ => n - (intOf i).toNat)
  case atStart => exact ⟨0, left - n, Nat.zero_le _, rfl, rfl, ⟨by simp only [sumN]; omega, fun i hi => absurd hi (Nat.not_lt_zero i)⟩, Below.refl _ _⟩
  case round =>
    obtain ⟨k, L, hk, rfl, rfl, hL, hR⟩ := hrel
    by_cases hlt : k < n
    · obtain ⟨g, o, rfl, _, hg, ⟨c0, c1, c2⟩, sk⟩ := H.out.at hlt
      have b0 := hR.out.cell (p := ⟨g, o + k * 3, none⟩) hg
      rw [c0] at b0
      have b1 := hR.out.cell (p := ⟨g, o + k * 3 + 1, none⟩) hg
      rw [c1] at b1
      have b2 := hR.out.cell (p := ⟨g, o + k * 3 + 2, none⟩) hg
      rw [c2] at b2
      clear c0 c1 c2
      obtain ⟨a0, d0, a1, d1, a2, d2, e0, e1, e2⟩ := sk.form
      rw [e0] at b0
      rw [e1] at b1
      rw [e2] at b2
      clear sk e0 e1 e2
      obtain ⟨n0, hn0⟩ : ∃ x, (S k).nc = x := ⟨_, rfl⟩
      obtain ⟨n1, hn1⟩ : ∃ x, (S k).nl = x := ⟨_, rfl⟩
      obtain ⟨n2, hn2⟩ : ∃ x, (S k).nw = x := ⟨_, rfl⟩
      rw [hn0] at b0
      rw [hn1] at b1
      rw [hn2] at b2
      have hB : Hid (n0 ≤ 9223372036854775807 ∧ n1 ≤ 9223372036854775807 ∧ n2 ≤ 9223372036854775807) := by
        have := HN.out k hlt
        unfold BigS at this
        rw [hn0, hn1, hn2] at this
        exact this
      have hE : Hid ((S k).nc = n0 ∧ (S k).nl = n1 ∧ (S k).nw = n2) := ⟨hn0, hn1, hn2⟩
      clear hn0 hn1 hn2
      by_cases hfit : (n0 : Int) + n1 + n2 ≤ L
      · go_wp2_with fail
        refine (szStore_ok L _ _ _ _ _ _ _ _ _ _ hfit hL.out.1.1 (by have := hL.out.1; omega) hB.out.1 hB.out.2.1 hB.out.2.2).mono ?_
        rintro e w1 ⟨rfl, q1⟩
        have HB : Hid (Below w.heap.size w w1) := hR.out.trans (q1.mono hR.out.size)
        have dd : decide (L - n0 - n1 - n2 < 0) = false := decide_eq_false (by omega)
        clear q1 hR b0 b1 b2
        go_wp2
        go_roundw
        case rel =>
          have hst : sumN (sizeT S) (k + 1) = sumN (sizeT S) k + (n0 + n1 + n2) := by show sumN (sizeT S) k + ((S k).nc + (S k).nl + (S k).nw) = _; rw [hE.out.1, hE.out.2.1, hE.out.2.2]
          refine ⟨k + 1, L - n0 - n1 - n2, by omega, by go_num, by go_num, ⟨by have := hL.out.1; rw [hst]; omega, fun i hi => ?_⟩, HB⟩
          by_cases q : i = k
          · subst q
            have h1 := hL.out.1
            unfold SmallS
            rw [hE.out.1, hE.out.2.1, hE.out.2.2]
            omega
          · exact hL.out.2 i (by omega)
        case measure => simp [intOf]; omega
      · go_wp2_with fail
        refine (szStore_no L _ _ _ _ _ _ _ _ _ _ (by omega) hL.out.1.1 (by have := hL.out.1; omega) hB.out.1 hB.out.2.1 hB.out.2.2).mono ?_
        rintro e w1 ⟨rfl, q1⟩
        have HB : Hid (Below w.heap.size w w1) := hR.out.trans (q1.mono hR.out.size)
        clear q1 hR b0 b1 b2
        go_wp2
        go_ret
        exact ⟨-1, rfl, ⟨Or.inl rfl, by omega⟩, HB.out⟩
    · obtain rfl : k = n := by omega
      go_wp2
      go_ret
      exact ⟨L, rfl, ⟨Or.inr ⟨hL.out.1.1, by omega, by have := hL.out.1; omega, hL.out.2⟩, by have := hL.out.1; omega⟩, hR.out⟩

set_option maxHeartbeats 1000000 in
theorem szGroups_lim (nr : Nat) (F : Nat → Int) (n : Nat) (S : Nat → Sto) (V : Nat → Nat → Value) (vr vs : Value) (B : Nat) (w : World) (h : Grs w B nr F n S V vr vs) (hr : nr ≤ 9223372036854775807) (hn : n ≤ 9223372036854775807) (hs : ∀ i, i < n → BigS (S i)) :
    Calls Tryz.prog 32 #[.agg #[vr, vs], .int .i64 1048576] w fun e w' => ∃ r, e = .returned (.int .i64 r) ∧ (r = -1 ∨ (0 ≤ r ∧ nr ≤ 1048576 ∧ (n ≤ 1048576 ∧ sumN (sizeT S) n ≤ 1048576) ∧ ∀ i, i < n → SmallS (S i))) ∧ r ≤ 1048576 ∧ Below w.heap.size w w' := by
  obtain ⟨a0, c0, a1, c1, rfl, rfl⟩ := h.form
  have H : Hid (Grs w B nr F n S V (.slice a0 nr c0) (.slice a1 n c1)) := h
  have HN : Hid (∀ i, i < n → BigS (S i)) := hs
  clear h hs
  by_cases hl : (1048576 : Int) < nr
  · go_enter Tryz.func32, Tryz.ntmps32
    go_wp2_with fail
    refine (szRangeS_no _ _ _ 1048576 _ hl (by omega) (by omega) hr).mono ?_
    rintro e w1 ⟨rfl, rfl⟩
    go_wp2
    go_ret
    exact ⟨-1, rfl, Or.inl rfl, by omega, below_alloc _ _⟩
  go_enter Tryz.func32, Tryz.ntmps32
  go_wp2_with fail
  refine (szRangeS_ok _ _ _ 1048576 _ (by omega) (by omega)).mono ?_
  rintro e w1 ⟨rfl, hw1⟩
  have d : decide ((1048576 : Int) - nr < 0) = false := decide_eq_false (by omega)
  have k1 : Blk2 w1 w.heap.size (.slice a0 nr c0) (.slice a1 n c1) := by rw [hw1]; exact Blk2.new w _ _ _
  have B1 : Hid (Below w.heap.size w w1) := by rw [hw1]; exact below_alloc _ _
  clear hw1
  obtain ⟨⟨_, x1⟩, _⟩ := k1
  go_wp2_with fail
  refine (szStoreS_lim n S V _ B (1048576 - nr) _ (H.out.2.later B1.out) hn HN.out (by omega) (by omega)).mono ?_
  rintro e w2 ⟨r, rfl, ⟨hA, hle⟩, q2⟩
  have B2 : Hid (Below w.heap.size w w2) := B1.out.trans (q2.mono B1.out.size)
  clear q2 x1
  rcases hA with rfl | ⟨h1, h3, h2, h4⟩
  · go_wp2
    go_ret
    exact ⟨-1, rfl, Or.inl rfl, by omega, B2.out⟩
  · have dr : decide (r < 0) = false := decide_eq_false (by omega)
    have HA : Hid (∀ i, i < n → SmallS (S i)) := h4
    clear h4
    go_wp2
    go_ret
    exact ⟨r, rfl, Or.inr ⟨h1, by omega, ⟨h3, by omega⟩, HA.out⟩, by omega, B2.out⟩
set_option maxRecDepth 100000 in
set_option maxHeartbeats 2000000 in
theorem szWorld_any (nw nx bd : Int) (nr : Nat) (F : Nat → Int) (n : Nat) (S : Nat → Sto) (V : Nat → Nat → Value) (vr vs : Value) (nt : Nat) (T : Nat → Tx) (X : Nat → Value) (vt : Value) (B : Nat) (w : World) (h : Grs w B nr F n S V vr vs) (ht : Txs w B nt T X vt) (hr : nr ≤ 9223372036854775807) (hn : n ≤ 9223372036854775807) (hs : ∀ i, i < n → BigS (S i)) (hnt : nt ≤ 9223372036854775807) (hx : ∀ i, i < nt → (T i).m ≤ 9223372036854775807) :
    Calls Tryz.prog 8 #[.agg #[.int .i64 nw, .int .i64 nx, .int .i64 bd, vr, vs, vt], .int .i64 1048576] w fun e w' => ∃ r, e = .returned (.int .i64 r) ∧ (r = -1 ∨ (0 ≤ r ∧ (nr ≤ 1048576 ∧ n ≤ 1048576 ∧ sumN (sizeT S) n ≤ 1048576 ∧ ∀ i, i < n → SmallS (S i)) ∧ nt ≤ 1048576 ∧ sumN (sizeX T) nt ≤ 1048576 ∧ ∀ i, i < nt → (T i).m ≤ 1048576)) ∧ Below w.heap.size w w' := by
  obtain ⟨a0, c0, a1, c1, rfl, rfl⟩ := h.form
  obtain ⟨at', ct, rfl⟩ := ht.form
  have H : Hid (Grs w B nr F n S V (.slice a0 nr c0) (.slice a1 n c1) ∧ Txs w B nt T X (.slice at' nt ct)) := ⟨h, ht⟩
  have HN : Hid ((∀ i, i < n → BigS (S i)) ∧ ∀ i, i < nt → (T i).m ≤ 9223372036854775807) := ⟨hs, hx⟩
  have K0 : Hid (Blk6 (w.alloc (.cells #[.int .i64 nw, .int .i64 nx, .int .i64 bd, .slice a0 nr c0, .slice a1 n c1, .slice at' nt ct] 30)) w.heap.size (.int .i64 nw) (.int .i64 nx) (.int .i64 bd) (.slice a0 nr c0) (.slice a1 n c1) (.slice at' nt ct)) := Blk6.new w _ _ _ _ _ _ _
  clear h ht hs hx
  go_enter Tryz.func8, Tryz.ntmps8
  go_wp2_with fail
  refine (szGroups_lim nr F n S V _ _ B _ (H.out.1.later (below_alloc _ _)) hr hn HN.out.1).mono ?_
  rintro e w1 ⟨r, rfl, hA, hle, q1⟩
  have Q1 : Hid (Below w.heap.size w w1 ∧ Blk6 w1 w.heap.size (.int .i64 nw) (.int .i64 nx) (.int .i64 bd) (.slice a0 nr c0) (.slice a1 n c1) (.slice at' nt ct)) := ⟨(below_alloc _ _).trans (q1.mono (by simp)), K0.out.later q1⟩
  clear q1 K0
  rcases hA with rfl | ⟨h1, h2, h3, h4⟩
  · go_wp2
    go_ret
    exact ⟨-1, rfl, Or.inl rfl, Q1.out.1⟩
  have dr : decide (r < 0) = false := decide_eq_false (by omega)
  have HA : Hid ((nr ≤ 1048576 ∧ n ≤ 1048576 ∧ sumN (sizeT S) n ≤ 1048576 ∧ ∀ i, i < n → SmallS (S i))) := ⟨h2, h3.1, h3.2, h4⟩
  clear h2 h3 h4
  obtain ⟨⟨s0, s1, s2, s3, s4, s5⟩, _⟩ := Q1.out.2
  go_wp2_with fail
  refine (szTxnS_any nt T X _ B r _ (H.out.2.later Q1.out.1) hnt HN.out.2 h1 hle).mono ?_
  rintro e w2 ⟨r2, rfl, hB, q2⟩
  have Q2 : Hid (Below w.heap.size w w2) := Q1.out.1.trans (q2.mono Q1.out.1.size)
  clear q2 s0 s1 s2 s3 s4 s5 Q1
  rcases hB with rfl | ⟨g1, g2, g3, g4⟩
  · go_wp2
    go_ret
    exact ⟨-1, rfl, Or.inl rfl, Q2.out⟩
  have dr2 : decide (r2 < 0) = false := decide_eq_false (by omega)
  have HB : Hid (nt ≤ 1048576 ∧ sumN (sizeX T) nt ≤ 1048576 ∧ ∀ i, i < nt → (T i).m ≤ 1048576) := ⟨g2, by omega, g4⟩
  clear g2 g3 g4
  go_wp2
  go_ret
  exact ⟨r2, rfl, Or.inr ⟨g1, HA.out, HB.out⟩, Q2.out⟩
end Go.Proofs.YtpfmifpjmcmlaaaGreat

namespace Go.Proofs.YtpfmifpjmcmlaaaGreat
open Go.RowKit

/-- The closure that is told a key: the range lies in block br. -/
def strayV (br : Nat) : Value := .func (.func 115) #[] #[.pointer (some ⟨br, 0, none⟩)]
/-- The closures' blocks. -/
def StrE (br bq : Nat) (fr tto : Int) (x : World) : Prop := x.cell? ⟨bq, 0, none⟩ = some (strayV br) ∧ x.cell? ⟨br, 0, none⟩ = some (.int .i64 fr) ∧ x.cell? ⟨br, 1, none⟩ = some (.int .i64 tto)
theorem StrE.later {x x' : World} {br bq : Nat} {fr tto : Int} (h : StrE br bq fr tto x) (hb : Below x.heap.size x x') : StrE br bq fr tto x' :=
  ⟨(hb.cell (p := ⟨bq, 0, none⟩) (World.block_lt_of_cell? x _ h.1)).trans h.1, (hb.cell (p := ⟨br, 0, none⟩) (World.block_lt_of_cell? x _ h.2.1)).trans h.2.1, (hb.cell (p := ⟨br, 1, none⟩) (World.block_lt_of_cell? x _ h.2.2)).trans h.2.2⟩
def outK (fr tto key : Int) : Bool := decide (key < fr ∨ tto ≤ key)
set_option maxHeartbeats 1000000 in
theorem stray1_is (br : Nat) (fr tto key : Int) (w : World) (h0 : w.cell? ⟨br, 0, none⟩ = some (.int .i64 fr)) (h1 : w.cell? ⟨br, 1, none⟩ = some (.int .i64 tto)) :
    Calls Tryz.prog 115 #[.int .i64 key, .pointer (some ⟨br, 0, none⟩)] w fun e w' => e = .returned (.bool (outK fr tto key)) ∧ w' = w := by
  by_cases q0 : key < fr
  · have E : Hid (outK fr tto key = true) := decide_eq_true (Or.inl q0)
    have d : decide (key < fr) = true := decide_eq_true q0
    clear q0
    go_enter Tryz.func115, Tryz.ntmps115
    go_wp2
    go_ret
    exact ⟨by rw [E.out]; rfl, rfl⟩
  have d : decide (key < fr) = false := decide_eq_false q0
  by_cases q1 : tto ≤ key
  · have E : Hid (outK fr tto key = true) := decide_eq_true (Or.inr q1)
    have d1 : decide (tto ≤ key) = true := decide_eq_true q1
    clear q0 q1
    go_enter Tryz.func115, Tryz.ntmps115
    go_wp2
    go_ret
    exact ⟨by rw [E.out]; rfl, rfl⟩
  · have E : Hid (outK fr tto key = false) := decide_eq_false (fun q => by omega)
    have d1 : decide (tto ≤ key) = false := decide_eq_false q1
    clear q0 q1
    go_enter Tryz.func115, Tryz.ntmps115
    go_wp2
    go_ret
    exact ⟨by rw [E.out]; rfl, rfl⟩
set_option maxHeartbeats 1000000 in
theorem strayCell_is (br bq : Nat) (fr tto : Int) (n0 n1 n2 : Int) (w : World) (h : StrE br bq fr tto w) :
    Calls Tryz.prog 117 #[.agg #[.int .i64 n0, .int .i64 n1, .int .i64 n2], .pointer (some ⟨bq, 0, none⟩)] w fun e w' => e = .returned (.bool (outK fr tto n0)) ∧ Below w.heap.size w w' := by
  have H : Hid (StrE br bq fr tto (w.alloc (.cells #[.int .i64 n0, .int .i64 n1, .int .i64 n2] 173))) := h.later (below_alloc _ _)
  obtain ⟨h0, _⟩ := H.out
  have hq : bq < w.heap.size := World.block_lt_of_cell? w _ h.1
  clear h
  unfold strayV at h0
  obtain ⟨r, hr⟩ : ∃ r, outK fr tto n0 = r := ⟨_, rfl⟩
  have HR : Hid (outK fr tto n0 = r) := hr
  clear hr
  go_enter Tryz.func117, Tryz.ntmps117
  go_wp2_with fail
  refine (stray1_is br fr tto n0 _ H.out.2.1 H.out.2.2).mono ?_
  rw [HR.out]
  rintro e w1 ⟨rfl, rfl⟩
  go_wp2
  go_ret
  exact ⟨by rw [HR.out]; rfl, below_alloc _ _⟩
set_option maxRecDepth 100000 in
set_option maxHeartbeats 4000000 in
theorem indexStrayCell_is (br bq : Nat) (fr tto : Int) (B n : Nat) (F : Nat → Int) (v : Value) (w : World) (h : Row w B 3 n F v) (hn : n ≤ 1048576) (hw : StrE br bq fr tto w) :
    Calls Tryz.prog 160 #[v, .func (.func 117) #[] #[.pointer (some ⟨bq, 0, none⟩)]] w fun e w' => ∃ r : Int, e = .returned (.int .i64 r) ∧ ((r = -1 ∧ ∀ i, i < n → outK fr tto (F (i * 3)) = false) ∨ (0 ≤ r ∧ ∃ i, i < n ∧ outK fr tto (F (i * 3)) = true)) ∧ Below w.heap.size w w' := by
  obtain ⟨ao, cp, rfl⟩ := h.form
  have H : Hid (Row w B 3 n F (.slice ao n cp)) := h
  have HW : Hid (StrE br bq fr tto w) := hw
  clear h hw
  go_enter Tryz.func160, Tryz.ntmps160
  go_wp2
  go_loopw [8] (fun i wr => ∃ k : Nat, k ≤ n ∧ i = .int .i64 k ∧ Hid (∀ j, j < k → outK fr tto (F (j * 3)) = false) ∧ Hid (Below w.heap.size w wr)) (fun i _ => n - (intOf i).toNat)
  case atStart => exact ⟨0, Nat.zero_le _, rfl, fun j hj => absurd hj (Nat.not_lt_zero j), Below.refl _ _⟩
  case round =>
    obtain ⟨k, hk, rfl, HS, HB⟩ := hrel
    by_cases hlt : k < n
    case neg =>
      obtain rfl : n = k := by omega
      go_wp2
      go_ret
      exact ⟨-1, rfl, Or.inl ⟨rfl, HS.out⟩, HB.out⟩
    obtain ⟨g, o, rfl, _, hg, x0, x1, x2⟩ := (H.out.later HB.out).at3 hlt
    obtain ⟨n0, N0⟩ : ∃ x, F (k * 3) = x := ⟨_, rfl⟩
    rw [N0] at x0
    obtain ⟨n1, N1⟩ : ∃ x, F (k * 3 + 1) = x := ⟨_, rfl⟩
    rw [N1] at x1
    obtain ⟨n2, N2⟩ : ∃ x, F (k * 3 + 2) = x := ⟨_, rfl⟩
    rw [N2] at x2
    obtain ⟨r, hr⟩ : ∃ r, outK fr tto n0 = r := ⟨_, rfl⟩
    have HR : Hid (outK fr tto n0 = r) := hr
    have HN : Hid (F (k * 3) = n0) := N0
    clear N0 N1 N2 hr
    cases r with
    | true =>
      go_wp2_with fail
      refine (strayCell_is br bq fr tto n0 n1 n2 _ (HW.out.later HB.out)).mono ?_
      rw [HR.out]
      rintro e w1 ⟨rfl, q1⟩
      have HB1 : Hid (Below w.heap.size w w1) := HB.out.trans (q1.mono HB.out.size)
      clear q1
      go_wp2
      go_ret
      exact ⟨k, rfl, Or.inr ⟨by omega, k, hlt, by rw [HN.out]; exact HR.out⟩, HB1.out⟩
    | false =>
      have HS1 : Hid (∀ j, j < k + 1 → outK fr tto (F (j * 3)) = false) := fun j hj => by
        by_cases q : j = k
        · subst q; rw [HN.out]; exact HR.out
        · exact HS.out j (by omega)
      go_wp2_with fail
      refine (strayCell_is br bq fr tto n0 n1 n2 _ (HW.out.later HB.out)).mono ?_
      rw [HR.out]
      rintro e w1 ⟨rfl, q1⟩
      have HB1 : Hid (Below w.heap.size w w1) := HB.out.trans (q1.mono HB.out.size)
      clear q1
      go_wp2
      go_roundw
      case rel => exact ⟨k + 1, by omega, by go_num, HS1, HB1⟩
      case measure => simp [intOf]; omega
set_option maxHeartbeats 1000000 in
theorem containsStrayCell_is (br bq : Nat) (fr tto : Int) (B n : Nat) (F : Nat → Int) (v : Value) (w : World) (h : Row w B 3 n F v) (hn : n ≤ 1048576) (hw : StrE br bq fr tto w) :
    Calls Tryz.prog 116 #[v, .func (.func 117) #[] #[.pointer (some ⟨bq, 0, none⟩)]] w fun e w' => e = .returned (.bool (decide (keepN F 3 fr (tto - 1) n ≠ n))) ∧ Below w.heap.size w w' := by
  obtain ⟨ao, cp, rfl⟩ := h.form
  have H : Hid (Row w B 3 n F (.slice ao n cp)) := h
  have HW : Hid (StrE br bq fr tto w) := hw
  clear h hw
  go_enter Tryz.func116, Tryz.ntmps116
  go_wp2_with fail
  refine (indexStrayCell_is br bq fr tto B n F _ _ H.out hn HW.out).mono ?_
  rintro e w1 ⟨r, rfl, hr, q1⟩
  have HB : Hid (Below w.heap.size w w1) := q1
  clear q1
  rcases hr with ⟨rfl, hr⟩ | ⟨h0, i, hi, hr⟩
  · have E : Hid (decide (keepN F 3 fr (tto - 1) n ≠ n) = false) := decide_eq_false (fun q => q ((keep_all n).2 (fun i hi => by have := of_decide_eq_false (hr i hi); omega)))
    clear hr
    go_wp2
    go_ret
    exact ⟨by rw [E.out]; rfl, HB.out⟩
  · have E : Hid (decide (keepN F 3 fr (tto - 1) n ≠ n) = true) := decide_eq_true (fun q => by have h1 := (keep_all n).1 q i hi; have h2 := of_decide_eq_true hr; omega)
    have d : decide ((0 : Int) ≤ r) = true := decide_eq_true h0
    clear hr h0
    go_wp2
    go_ret
    exact ⟨by rw [E.out]; rfl, HB.out⟩
set_option maxHeartbeats 1000000 in
theorem strayLock_is (br bq : Nat) (fr tto : Int) (n0 n1 n2 n3 n4 : Int) (w : World) (h : StrE br bq fr tto w) :
    Calls Tryz.prog 119 #[.agg #[.int .i64 n0, .int .i64 n1, .int .i64 n2, .int .i64 n3, .int .i64 n4], .pointer (some ⟨bq, 0, none⟩)] w fun e w' => e = .returned (.bool (outK fr tto n0)) ∧ Below w.heap.size w w' := by
  have H : Hid (StrE br bq fr tto (w.alloc (.cells #[.int .i64 n0, .int .i64 n1, .int .i64 n2, .int .i64 n3, .int .i64 n4] 177))) := h.later (below_alloc _ _)
  obtain ⟨h0, _⟩ := H.out
  have hq : bq < w.heap.size := World.block_lt_of_cell? w _ h.1
  clear h
  unfold strayV at h0
  obtain ⟨r, hr⟩ : ∃ r, outK fr tto n0 = r := ⟨_, rfl⟩
  have HR : Hid (outK fr tto n0 = r) := hr
  clear hr
  go_enter Tryz.func119, Tryz.ntmps119
  go_wp2_with fail
  refine (stray1_is br fr tto n0 _ H.out.2.1 H.out.2.2).mono ?_
  rw [HR.out]
  rintro e w1 ⟨rfl, rfl⟩
  go_wp2
  go_ret
  exact ⟨by rw [HR.out]; rfl, below_alloc _ _⟩
set_option maxRecDepth 100000 in
set_option maxHeartbeats 4000000 in
theorem indexStrayLock_is (br bq : Nat) (fr tto : Int) (B n : Nat) (F : Nat → Int) (v : Value) (w : World) (h : Row w B 5 n F v) (hn : n ≤ 1048576) (hw : StrE br bq fr tto w) :
    Calls Tryz.prog 161 #[v, .func (.func 119) #[] #[.pointer (some ⟨bq, 0, none⟩)]] w fun e w' => ∃ r : Int, e = .returned (.int .i64 r) ∧ ((r = -1 ∧ ∀ i, i < n → outK fr tto (F (i * 5)) = false) ∨ (0 ≤ r ∧ ∃ i, i < n ∧ outK fr tto (F (i * 5)) = true)) ∧ Below w.heap.size w w' := by
  obtain ⟨ao, cp, rfl⟩ := h.form
  have H : Hid (Row w B 5 n F (.slice ao n cp)) := h
  have HW : Hid (StrE br bq fr tto w) := hw
  clear h hw
  go_enter Tryz.func161, Tryz.ntmps161
  go_wp2
  go_loopw [8] (fun i wr => ∃ k : Nat, k ≤ n ∧ i = .int .i64 k ∧ Hid (∀ j, j < k → outK fr tto (F (j * 5)) = false) ∧ Hid (Below w.heap.size w wr)) (fun i _ => n - (intOf i).toNat)
  case atStart => exact ⟨0, Nat.zero_le _, rfl, fun j hj => absurd hj (Nat.not_lt_zero j), Below.refl _ _⟩
  case round =>
    obtain ⟨k, hk, rfl, HS, HB⟩ := hrel
    by_cases hlt : k < n
    case neg =>
      obtain rfl : n = k := by omega
      go_wp2
      go_ret
      exact ⟨-1, rfl, Or.inl ⟨rfl, HS.out⟩, HB.out⟩
    obtain ⟨g, o, rfl, _, hg, x0, x1, x2, x3, x4⟩ := (H.out.later HB.out).at5 hlt
    obtain ⟨n0, N0⟩ : ∃ x, F (k * 5) = x := ⟨_, rfl⟩
    rw [N0] at x0
    obtain ⟨n1, N1⟩ : ∃ x, F (k * 5 + 1) = x := ⟨_, rfl⟩
    rw [N1] at x1
    obtain ⟨n2, N2⟩ : ∃ x, F (k * 5 + 2) = x := ⟨_, rfl⟩
    rw [N2] at x2
    obtain ⟨n3, N3⟩ : ∃ x, F (k * 5 + 3) = x := ⟨_, rfl⟩
    rw [N3] at x3
    obtain ⟨n4, N4⟩ : ∃ x, F (k * 5 + 4) = x := ⟨_, rfl⟩
    rw [N4] at x4
    obtain ⟨r, hr⟩ : ∃ r, outK fr tto n0 = r := ⟨_, rfl⟩
    have HR : Hid (outK fr tto n0 = r) := hr
    have HN : Hid (F (k * 5) = n0) := N0
    clear N0 N1 N2 N3 N4 hr
    cases r with
    | true =>
      go_wp2_with fail
      refine (strayLock_is br bq fr tto n0 n1 n2 n3 n4 _ (HW.out.later HB.out)).mono ?_
      rw [HR.out]
      rintro e w1 ⟨rfl, q1⟩
      have HB1 : Hid (Below w.heap.size w w1) := HB.out.trans (q1.mono HB.out.size)
      clear q1
      go_wp2
      go_ret
      exact ⟨k, rfl, Or.inr ⟨by omega, k, hlt, by rw [HN.out]; exact HR.out⟩, HB1.out⟩
    | false =>
      have HS1 : Hid (∀ j, j < k + 1 → outK fr tto (F (j * 5)) = false) := fun j hj => by
        by_cases q : j = k
        · subst q; rw [HN.out]; exact HR.out
        · exact HS.out j (by omega)
      go_wp2_with fail
      refine (strayLock_is br bq fr tto n0 n1 n2 n3 n4 _ (HW.out.later HB.out)).mono ?_
      rw [HR.out]
      rintro e w1 ⟨rfl, q1⟩
      have HB1 : Hid (Below w.heap.size w w1) := HB.out.trans (q1.mono HB.out.size)
      clear q1
      go_wp2
      go_roundw
      case rel => exact ⟨k + 1, by omega, by go_num, HS1, HB1⟩
      case measure => simp [intOf]; omega
set_option maxHeartbeats 1000000 in
theorem containsStrayLock_is (br bq : Nat) (fr tto : Int) (B n : Nat) (F : Nat → Int) (v : Value) (w : World) (h : Row w B 5 n F v) (hn : n ≤ 1048576) (hw : StrE br bq fr tto w) :
    Calls Tryz.prog 118 #[v, .func (.func 119) #[] #[.pointer (some ⟨bq, 0, none⟩)]] w fun e w' => e = .returned (.bool (decide (keepN F 5 fr (tto - 1) n ≠ n))) ∧ Below w.heap.size w w' := by
  obtain ⟨ao, cp, rfl⟩ := h.form
  have H : Hid (Row w B 5 n F (.slice ao n cp)) := h
  have HW : Hid (StrE br bq fr tto w) := hw
  clear h hw
  go_enter Tryz.func118, Tryz.ntmps118
  go_wp2_with fail
  refine (indexStrayLock_is br bq fr tto B n F _ _ H.out hn HW.out).mono ?_
  rintro e w1 ⟨r, rfl, hr, q1⟩
  have HB : Hid (Below w.heap.size w w1) := q1
  clear q1
  rcases hr with ⟨rfl, hr⟩ | ⟨h0, i, hi, hr⟩
  · have E : Hid (decide (keepN F 5 fr (tto - 1) n ≠ n) = false) := decide_eq_false (fun q => q ((keep_all n).2 (fun i hi => by have := of_decide_eq_false (hr i hi); omega)))
    clear hr
    go_wp2
    go_ret
    exact ⟨by rw [E.out]; rfl, HB.out⟩
  · have E : Hid (decide (keepN F 5 fr (tto - 1) n ≠ n) = true) := decide_eq_true (fun q => by have h1 := (keep_all n).1 q i hi; have h2 := of_decide_eq_true hr; omega)
    have d : decide ((0 : Int) ≤ r) = true := decide_eq_true h0
    clear hr h0
    go_wp2
    go_ret
    exact ⟨by rw [E.out]; rfl, HB.out⟩
set_option maxHeartbeats 1000000 in
theorem strayWrite_is (br bq : Nat) (fr tto : Int) (n0 n1 n2 n3 : Int) (w : World) (h : StrE br bq fr tto w) :
    Calls Tryz.prog 121 #[.agg #[.int .i64 n0, .int .i64 n1, .int .i64 n2, .int .i64 n3], .pointer (some ⟨bq, 0, none⟩)] w fun e w' => e = .returned (.bool (outK fr tto n0)) ∧ Below w.heap.size w w' := by
  have H : Hid (StrE br bq fr tto (w.alloc (.cells #[.int .i64 n0, .int .i64 n1, .int .i64 n2, .int .i64 n3] 181))) := h.later (below_alloc _ _)
  obtain ⟨h0, _⟩ := H.out
  have hq : bq < w.heap.size := World.block_lt_of_cell? w _ h.1
  clear h
  unfold strayV at h0
  obtain ⟨r, hr⟩ : ∃ r, outK fr tto n0 = r := ⟨_, rfl⟩
  have HR : Hid (outK fr tto n0 = r) := hr
  clear hr
  go_enter Tryz.func121, Tryz.ntmps121
  go_wp2_with fail
  refine (stray1_is br fr tto n0 _ H.out.2.1 H.out.2.2).mono ?_
  rw [HR.out]
  rintro e w1 ⟨rfl, rfl⟩
  go_wp2
  go_ret
  exact ⟨by rw [HR.out]; rfl, below_alloc _ _⟩
set_option maxRecDepth 100000 in
set_option maxHeartbeats 4000000 in
theorem indexStrayWrite_is (br bq : Nat) (fr tto : Int) (B n : Nat) (F : Nat → Int) (v : Value) (w : World) (h : Row w B 4 n F v) (hn : n ≤ 1048576) (hw : StrE br bq fr tto w) :
    Calls Tryz.prog 162 #[v, .func (.func 121) #[] #[.pointer (some ⟨bq, 0, none⟩)]] w fun e w' => ∃ r : Int, e = .returned (.int .i64 r) ∧ ((r = -1 ∧ ∀ i, i < n → outK fr tto (F (i * 4)) = false) ∨ (0 ≤ r ∧ ∃ i, i < n ∧ outK fr tto (F (i * 4)) = true)) ∧ Below w.heap.size w w' := by
  obtain ⟨ao, cp, rfl⟩ := h.form
  have H : Hid (Row w B 4 n F (.slice ao n cp)) := h
  have HW : Hid (StrE br bq fr tto w) := hw
  clear h hw
  go_enter Tryz.func162, Tryz.ntmps162
  go_wp2
  go_loopw [8] (fun i wr => ∃ k : Nat, k ≤ n ∧ i = .int .i64 k ∧ Hid (∀ j, j < k → outK fr tto (F (j * 4)) = false) ∧ Hid (Below w.heap.size w wr)) (fun i _ => n - (intOf i).toNat)
  case atStart => exact ⟨0, Nat.zero_le _, rfl, fun j hj => absurd hj (Nat.not_lt_zero j), Below.refl _ _⟩
  case round =>
    obtain ⟨k, hk, rfl, HS, HB⟩ := hrel
    by_cases hlt : k < n
    case neg =>
      obtain rfl : n = k := by omega
      go_wp2
      go_ret
      exact ⟨-1, rfl, Or.inl ⟨rfl, HS.out⟩, HB.out⟩
    obtain ⟨g, o, rfl, _, hg, x0, x1, x2, x3⟩ := (H.out.later HB.out).at4 hlt
    obtain ⟨n0, N0⟩ : ∃ x, F (k * 4) = x := ⟨_, rfl⟩
    rw [N0] at x0
    obtain ⟨n1, N1⟩ : ∃ x, F (k * 4 + 1) = x := ⟨_, rfl⟩
    rw [N1] at x1
    obtain ⟨n2, N2⟩ : ∃ x, F (k * 4 + 2) = x := ⟨_, rfl⟩
    rw [N2] at x2
    obtain ⟨n3, N3⟩ : ∃ x, F (k * 4 + 3) = x := ⟨_, rfl⟩
    rw [N3] at x3
    obtain ⟨r, hr⟩ : ∃ r, outK fr tto n0 = r := ⟨_, rfl⟩
    have HR : Hid (outK fr tto n0 = r) := hr
    have HN : Hid (F (k * 4) = n0) := N0
    clear N0 N1 N2 N3 hr
    cases r with
    | true =>
      go_wp2_with fail
      refine (strayWrite_is br bq fr tto n0 n1 n2 n3 _ (HW.out.later HB.out)).mono ?_
      rw [HR.out]
      rintro e w1 ⟨rfl, q1⟩
      have HB1 : Hid (Below w.heap.size w w1) := HB.out.trans (q1.mono HB.out.size)
      clear q1
      go_wp2
      go_ret
      exact ⟨k, rfl, Or.inr ⟨by omega, k, hlt, by rw [HN.out]; exact HR.out⟩, HB1.out⟩
    | false =>
      have HS1 : Hid (∀ j, j < k + 1 → outK fr tto (F (j * 4)) = false) := fun j hj => by
        by_cases q : j = k
        · subst q; rw [HN.out]; exact HR.out
        · exact HS.out j (by omega)
      go_wp2_with fail
      refine (strayWrite_is br bq fr tto n0 n1 n2 n3 _ (HW.out.later HB.out)).mono ?_
      rw [HR.out]
      rintro e w1 ⟨rfl, q1⟩
      have HB1 : Hid (Below w.heap.size w w1) := HB.out.trans (q1.mono HB.out.size)
      clear q1
      go_wp2
      go_roundw
      case rel => exact ⟨k + 1, by omega, by go_num, HS1, HB1⟩
      case measure => simp [intOf]; omega
set_option maxHeartbeats 1000000 in
theorem containsStrayWrite_is (br bq : Nat) (fr tto : Int) (B n : Nat) (F : Nat → Int) (v : Value) (w : World) (h : Row w B 4 n F v) (hn : n ≤ 1048576) (hw : StrE br bq fr tto w) :
    Calls Tryz.prog 120 #[v, .func (.func 121) #[] #[.pointer (some ⟨bq, 0, none⟩)]] w fun e w' => e = .returned (.bool (decide (keepN F 4 fr (tto - 1) n ≠ n))) ∧ Below w.heap.size w w' := by
  obtain ⟨ao, cp, rfl⟩ := h.form
  have H : Hid (Row w B 4 n F (.slice ao n cp)) := h
  have HW : Hid (StrE br bq fr tto w) := hw
  clear h hw
  go_enter Tryz.func120, Tryz.ntmps120
  go_wp2_with fail
  refine (indexStrayWrite_is br bq fr tto B n F _ _ H.out hn HW.out).mono ?_
  rintro e w1 ⟨r, rfl, hr, q1⟩
  have HB : Hid (Below w.heap.size w w1) := q1
  clear q1
  rcases hr with ⟨rfl, hr⟩ | ⟨h0, i, hi, hr⟩
  · have E : Hid (decide (keepN F 4 fr (tto - 1) n ≠ n) = false) := decide_eq_false (fun q => q ((keep_all n).2 (fun i hi => by have := of_decide_eq_false (hr i hi); omega)))
    clear hr
    go_wp2
    go_ret
    exact ⟨by rw [E.out]; rfl, HB.out⟩
  · have E : Hid (decide (keepN F 4 fr (tto - 1) n ≠ n) = true) := decide_eq_true (fun q => by have h1 := (keep_all n).1 q i hi; have h2 := of_decide_eq_true hr; omega)
    have d : decide ((0 : Int) ≤ r) = true := decide_eq_true h0
    clear hr h0
    go_wp2
    go_ret
    exact ⟨by rw [E.out]; rfl, HB.out⟩
set_option maxRecDepth 100000 in
set_option maxHeartbeats 4000000 in
theorem hasStray_any (S : Sto) (v0 v1 v2 : Value) (fr tto ep : Int) (B : Nat) (w : World) (h : St w B S v0 v1 v2) (hn : S.nc ≤ 200 ∧ S.nl ≤ 200 ∧ S.nw ≤ 200) :
    Calls Tryz.prog 78 #[.agg #[v0, v1, v2], .agg #[.int .i64 fr, .int .i64 tto, .int .i64 ep]] w fun e w' => e = .returned (.bool (decide (strayS S fr tto))) ∧ Below w.heap.size w w' := by
  obtain ⟨a0, c0, a1, c1, a2, c2, rfl, rfl, rfl⟩ := h.form
  have H : Hid (St w B S (.slice a0 S.nc c0) (.slice a1 S.nl c1) (.slice a2 S.nw c2)) := h
  have HT : Hid (S.nc ≤ 1048576 ∧ S.nl ≤ 1048576 ∧ S.nw ≤ 1048576) := ⟨by omega, by omega, by omega⟩
  obtain ⟨x0, hx0⟩ : ∃ x, decide (keepN S.c 3 fr (tto - 1) S.nc ≠ S.nc) = x := ⟨_, rfl⟩
  obtain ⟨x1, hx1⟩ : ∃ x, decide (keepN S.l 5 fr (tto - 1) S.nl ≠ S.nl) = x := ⟨_, rfl⟩
  obtain ⟨x2, hx2⟩ : ∃ x, decide (keepN S.k 4 fr (tto - 1) S.nw ≠ S.nw) = x := ⟨_, rfl⟩
  have HX : Hid (decide (keepN S.c 3 fr (tto - 1) S.nc ≠ S.nc) = x0 ∧ decide (keepN S.l 5 fr (tto - 1) S.nl ≠ S.nl) = x1 ∧ decide (keepN S.k 4 fr (tto - 1) S.nw ≠ S.nw) = x2) := ⟨hx0, hx1, hx2⟩
  have HS : Hid (decide (strayS S fr tto) = (x0 || (x1 || x2))) := by
    unfold Hid
    rw [← hx0, ← hx1, ← hx2, ← Bool.decide_or, ← Bool.decide_or]
    exact decide_eq_decide.2 Iff.rfl
  clear h hn hx0 hx1 hx2
  have HE : Hid (StrE (w.heap.size + 1) (w.heap.size + 2) fr tto (((w.alloc (.cells #[.slice a0 S.nc c0, .slice a1 S.nl c1, .slice a2 S.nw c2] 127)).alloc (.cells #[.int .i64 fr, .int .i64 tto, .int .i64 ep] 131)).alloc (.cells #[strayV (w.heap.size + 1)] 71))) := by
    have h1 := ((Blk3.new (w.alloc (.cells #[.slice a0 S.nc c0, .slice a1 S.nl c1, .slice a2 S.nw c2] 127)) (.int .i64 fr) (.int .i64 tto) (.int .i64 ep) 131).alloc (.cells #[strayV (w.heap.size + 1)] 71)).1
    have h3 := World.cell?_alloc_mark ((w.alloc (.cells #[.slice a0 S.nc c0, .slice a1 S.nl c1, .slice a2 S.nw c2] 127)).alloc (.cells #[.int .i64 fr, .int .i64 tto, .int .i64 ep] 131)) #[strayV (w.heap.size + 1)] 71 (0, 0) 0
    simp only [World.size_alloc] at h1 h3
    exact ⟨h3, h1.1, h1.2.1⟩
  have HK : Hid (Blk3 (((w.alloc (.cells #[.slice a0 S.nc c0, .slice a1 S.nl c1, .slice a2 S.nw c2] 127)).alloc (.cells #[.int .i64 fr, .int .i64 tto, .int .i64 ep] 131)).alloc (.cells #[strayV (w.heap.size + 1)] 71)) w.heap.size (.slice a0 S.nc c0) (.slice a1 S.nl c1) (.slice a2 S.nw c2) ∧ Below w.heap.size w (((w.alloc (.cells #[.slice a0 S.nc c0, .slice a1 S.nl c1, .slice a2 S.nw c2] 127)).alloc (.cells #[.int .i64 fr, .int .i64 tto, .int .i64 ep] 131)).alloc (.cells #[strayV (w.heap.size + 1)] 71))) := ⟨((Blk3.new w _ _ _ _).alloc _).alloc _, ((below_alloc _ _).alloc (by simp) _).alloc (by simp; omega) _⟩
  have hst := fun (W : World) (a : Addr) => run_store Tryz.prog W a (strayV (w.heap.size + 1)) .plain rfl
  have hex : strayV (w.heap.size + 1) = .func (.func 115) #[] #[.pointer (some ⟨w.heap.size + 1, 0, none⟩)] := rfl
  rw [hex] at HE HK hst
  clear hex
  go_enter Tryz.func78, Tryz.ntmps78
  go_wp2_with fail
  obtain ⟨⟨p0, p1, p2⟩, _⟩ := HK.out.1
  refine (containsStrayCell_is (w.heap.size + 1) (w.heap.size + 2) fr tto B S.nc S.c _ _ (H.out.1.later HK.out.2) HT.out.1 HE.out).mono ?_
  rw [HX.out.1]
  rintro e w1 ⟨rfl, q1⟩
  have HE1 : Hid (StrE (w.heap.size + 1) (w.heap.size + 2) fr tto w1) := HE.out.later q1
  have HK1 : Hid (Blk3 w1 w.heap.size (.slice a0 S.nc c0) (.slice a1 S.nl c1) (.slice a2 S.nw c2) ∧ Below w.heap.size w w1) := ⟨HK.out.1.later q1, HK.out.2.trans (q1.mono HK.out.2.size)⟩
  clear q1 p0 p1 p2 HE HK
  obtain ⟨⟨p0, p1, p2⟩, _⟩ := HK1.out.1
  cases x0 with
  | true =>
    have E : Hid (decide (strayS S fr tto) = true) := HS.out
    clear HS HX
    go_wp2
    go_ret
    exact ⟨by rw [E.out]; rfl, HK1.out.2⟩
  | false =>
  go_wp2_with fail
  refine (containsStrayLock_is (w.heap.size + 1) (w.heap.size + 2) fr tto B S.nl S.l _ _ (H.out.2.1.later HK1.out.2) HT.out.2.1 HE1.out).mono ?_
  rw [HX.out.2.1]
  rintro e w2 ⟨rfl, q1⟩
  have HE2 : Hid (StrE (w.heap.size + 1) (w.heap.size + 2) fr tto w2) := HE1.out.later q1
  have HK2 : Hid (Blk3 w2 w.heap.size (.slice a0 S.nc c0) (.slice a1 S.nl c1) (.slice a2 S.nw c2) ∧ Below w.heap.size w w2) := ⟨HK1.out.1.later q1, HK1.out.2.trans (q1.mono HK1.out.2.size)⟩
  clear q1 p0 p1 p2 HE1 HK1
  obtain ⟨⟨p0, p1, p2⟩, _⟩ := HK2.out.1
  cases x1 with
  | true =>
    have E : Hid (decide (strayS S fr tto) = true) := HS.out
    clear HS HX
    go_wp2
    go_ret
    exact ⟨by rw [E.out]; rfl, HK2.out.2⟩
  | false =>
  go_wp2_with fail
  refine (containsStrayWrite_is (w.heap.size + 1) (w.heap.size + 2) fr tto B S.nw S.k _ _ (H.out.2.2.later HK2.out.2) HT.out.2.2 HE2.out).mono ?_
  rw [HX.out.2.2]
  rintro e w3 ⟨rfl, q1⟩
  have HB : Hid (Below w.heap.size w w3) := HK2.out.2.trans (q1.mono HK2.out.2.size)
  have E : Hid (decide (strayS S fr tto) = x2) := HS.out
  clear q1 HS HX HE2 HK2 p0 p1 p2
  go_wp2
  go_ret
  exact ⟨by rw [E.out]; rfl, HB.out⟩
end Go.Proofs.YtpfmifpjmcmlaaaGreat

namespace Go.Proofs.YtpfmifpjmcmlaaaGreat
section
open Go.RowKit
/-- The first N numbers. -/
def nums (F : Nat → Int) (N : Nat) : List Int := (List.range N).map F
theorem nums_length (F : Nat → Int) (N : Nat) : (nums F N).length = N := by simp [nums]
theorem nums_vals (F : Nat → Int) (N : Nat) : (nums F N).map (Value.int .i64) = vals F N := by simp [nums, vals]
theorem OwnM.keptB {w w' : World} {B : Nat} {e : TypeId} {m : Nat} {v : Value} {n : Nat} {L : List Int} (h : OwnM w B e m v n L) (hb : ∀ k, v.ownBlock = some k → w'.heap[k]? = w.heap[k]?) : OwnM w' B e m v n L := by
  obtain ⟨h1, h2⟩ := h
  refine ⟨h1, ?_⟩
  rcases h2 with q | ⟨g, cap, cur, rfl, q1, q2, q3⟩
  · exact Or.inl q
  · exact Or.inr ⟨g, cap, cur, rfl, q1, (hb g rfl).trans q2, q3⟩
theorem OwnM.set {w : World} {B : Nat} {e : TypeId} {m : Nat} {v : Value} {n : Nat} {L : List Int} (h : OwnM w B e m v n L) {c : Nat} (hc : ∀ k, v.ownBlock = some k → k ≠ c) (j : Nat) (u : Value) : OwnM (w.setCell ⟨c, j, none⟩ u) B e m v n L :=
  h.keptB (fun k hk => Below.heap_setCell w _ u k (hc k hk))
theorem run_appL (t ty e : TypeId) (i : TypeInfo) (z : Value) (m bytes : Nat) (ht : Tryz.prog.underlying t = some (.slice e)) (hi : Tryz.prog.info? e = some i) (hz : i.zero = some z) (hsize : i.size = m) (hby : i.bytes = bytes) (hzs : z.cells.size = m) (hm : 0 < m) (hb5 : bytes ≤ 1000)
    (w : World) (base n0 : Nat) (L : List Int) (v : Value) (hown : OwnM w base e m v n0 L) (B n : Nat) (F : Nat → Int) (x : Value) (h : Row w B m n F x) (hn : n0 + n ≤ 1048576) (hbase : base ≤ w.heap.size) :
    ∃ ao cp w', (Builtin.append_ #[t, t] ty #[v, x]).run Tryz.prog w = .ok (.slice ao (n0 + n) cp) w' ∧ OwnM w' base e m (.slice ao (n0 + n) cp) (n0 + n) (L ++ nums F (n * m)) ∧ w.grownBy w' v.ownBlock ∧ ((Value.slice ao (n0 + n) cp).ownBlock = v.ownBlock ∨ (Value.slice ao (n0 + n) cp).ownBlock = some w.heap.size) := by
  have hbb : (n0 + n) * bytes ≤ 1048576 * 1000 := Nat.mul_le_mul hn hb5
  obtain ⟨ao, cp, rfl⟩ := h.form
  cases ao with
  | none =>
    have e0 : n = 0 := by
      rcases Nat.eq_zero_or_pos n with q | q
      · exact q
      · obtain ⟨g, o, hg, _⟩ := h.at q
        cases hg
    subst e0
    obtain ⟨av, cv, rfl⟩ := hown.form
    refine ⟨av, cv, w, ?_, ?_, ⟨rfl, rfl, rfl, Nat.le_refl _, fun _ _ _ => rfl⟩, Or.inl rfl⟩
    · rcases hown.2 with ⟨q, _⟩ | ⟨g, cap, cur, q, _, _, hnc, _⟩
      · cases q
        simp [Builtin.append_, run_underlying ht, sizeOf, typeInfo, hi, Builtin.lenOf, Builtin.firstCells]
      · cases q
        simp [Builtin.append_, run_underlying ht, sizeOf, typeInfo, hi, Builtin.lenOf, Builtin.firstCells, hnc, storeCells]
    · simpa [nums] using hown
  | some a =>
    obtain ⟨v', w', h1, h2, h3, _, h5⟩ := run_append_own_at (P := Tryz.prog) w base t ty e i z m bytes ht hi hz hsize hby hzs hm v n0 _ hown a n cp (vals F (n * m)) (vals_length _ _) (row_cells h) (vals_one _ _) (by unfold maxLen; omega) (by omega) hbase
    have h2' : OwnM w' base e m v' (n0 + n) (L ++ nums F (n * m)) := by
      unfold OwnM
      rw [List.map_append, nums_vals]
      exact h2
    obtain ⟨ao', cp', rfl⟩ := h2'.form
    exact ⟨ao', cp', w', h1, h2', h3, h5⟩
/-- .. with the word where the new row lies, for the walk. -/
theorem wpList_appL (e : TypeId) (i : TypeInfo) (z : Value) (m bytes : Nat) {ops : Array Oper} {rest : List Oper} {o : Oper} {a : Act} {Q : Exit → Act → World → Prop} (hgd : o.guard = none) (s x : Operand) (t : TypeId) (ho : o.op = .call { callee := .builtin .append, args := #[s, x], argTypes := #[t, t] })
    (ht : Tryz.prog.underlying t = some (.slice e)) (hi : Tryz.prog.info? e = some i) (hz : i.zero = some z) (hsize : i.size = m) (hby : i.bytes = bytes) (hzs : z.cells.size = m) (hm : 0 < m) (hb5 : bytes ≤ 1000)
    (w : World) (base n0 : Nat) (L : List Int) (v : Value) (hs : a.eval s = v) (hown : OwnM w base e m v n0 L) (B n : Nat) (F : Nat → Int) (u : Value) (hx : a.eval x = u) (h : Row w B m n F u) (hn : n0 + n ≤ 1048576) (hbase : base ≤ w.heap.size)
    (hK : ∀ ao cp w', OwnM w' base e m (.slice ao (n0 + n) cp) (n0 + n) (L ++ nums F (n * m)) → w.grownBy w' v.ownBlock → ((Value.slice ao (n0 + n) cp).ownBlock = v.ownBlock ∨ (Value.slice ao (n0 + n) cp).ownBlock = some w.heap.size) → wpList Tryz.prog ops Q rest (a.put o.dst (.slice ao (n0 + n) cp)) w') : wpList Tryz.prog ops Q (o :: rest) a w := by
  refine wpList_plain hgd fun K hK' => ?_
  obtain ⟨ao, cp, w', hr, h2, h3, h5⟩ := run_appL t o.type e i z m bytes ht hi hz hsize hby hzs hm hb5 w base n0 L v hown B n F u h hn hbase
  unfold Oper.wp execOp
  simp only [ho, resolve, invoke, builtin, Sem.run_bind, Sem.run_pure, Result.andThen_ok, List.map_toArray, List.map_cons, List.map_nil, hs, hx, hr]
  exact hK' _ _ (hK ao cp w' h2 h3 h5)
end
end Go.Proofs.YtpfmifpjmcmlaaaGreat

namespace Go.Proofs.YtpfmifpjmcmlaaaGreat
open Go.RowKit

/-- All numbers of the first k rows. -/
def allL (m : Nat) (N : Nat → Nat) (F : Nat → Nat → Int) : Nat → List Int
  | 0 => []
  | k + 1 => allL m N F k ++ nums (F k) (N k * m)
theorem all_len (m : Nat) (N : Nat → Nat) (F : Nat → Nat → Int) : ∀ k, (allL m N F k).length = sumN N k * m
  | 0 => by simp [allL, sumN]
  | k + 1 => by
    show (allL m N F k ++ nums (F k) (N k * m)).length = (sumN N k + N k) * m
    rw [List.length_append, nums_length, all_len m N F k, Nat.add_mul]
/-- All stores as one. -/
def unionS (n : Nat) (S : Nat → Sto) : Sto := ⟨sumN (fun i => (S i).nc) n, fun p => (allL 3 (fun i => (S i).nc) (fun i => (S i).c) n).getD p 0, sumN (fun i => (S i).nl) n, fun p => (allL 5 (fun i => (S i).nl) (fun i => (S i).l) n).getD p 0, sumN (fun i => (S i).nw) n, fun p => (allL 4 (fun i => (S i).nw) (fun i => (S i).k) n).getD p 0⟩
def ApaO (u v : Value) : Prop := ∀ q, u.ownBlock = some q → v.ownBlock ≠ some q
/-- Three rows under way: they lie in block b, each is owned from block B on, and they lie apart. -/
structure Tog (w x : World) (b B : Nat) (u0 u1 u2 : Value) (n0 n1 n2 : Nat) (L0 L1 L2 : List Int) : Prop where
  below : Below w.heap.size w x
  blk : Blk3 x b u0 u1 u2
  lo : w.heap.size ≤ b ∧ b < B ∧ B ≤ x.heap.size
  o0 : OwnM x B 173 3 u0 n0 L0
  o1 : OwnM x B 177 5 u1 n1 L1
  o2 : OwnM x B 181 4 u2 n2 L2
  a01 : ApaO u0 u1
  a02 : ApaO u0 u2
  a12 : ApaO u1 u2
theorem Tog.later {w x x' : World} {b B : Nat} {u0 u1 u2 : Value} {n0 n1 n2 : Nat} {L0 L1 L2 : List Int} (h : Tog w x b B u0 u1 u2 n0 n1 n2 L0 L1 L2) (hb : Below x.heap.size x x') : Tog w x' b B u0 u1 u2 n0 n1 n2 L0 L1 L2 :=
  ⟨h.below.trans (hb.mono h.below.size), h.blk.later hb, ⟨h.lo.1, h.lo.2.1, Nat.le_trans h.lo.2.2 hb.size⟩, h.o0.later hb, h.o1.later hb, h.o2.later hb, h.a01, h.a02, h.a12⟩
theorem ApaO.symm {u v : Value} (h : ApaO u v) : ApaO v u := fun q h1 h2 => h q h2 h1
/-- A row that is apart from one that has grown. -/
theorem OwnM.past {x x' : World} {B : Nat} {e : TypeId} {m : Nat} {u v : Value} {n : Nat} {L : List Int} (h : OwnM x B e m v n L) (hg : x.grownBy x' u.ownBlock) (ha : ApaO u v) : OwnM x' B e m v n L :=
  h.keptB (fun k hk => hg.block k (h.block k hk).2 (fun q => ha k q.symm hk))
theorem ApaO.moved {x : World} {B : Nat} {e : TypeId} {m : Nat} {u u' v : Value} {n : Nat} {L : List Int} (h : ApaO u v) (hv : OwnM x B e m v n L) (ho : u'.ownBlock = u.ownBlock ∨ u'.ownBlock = some x.heap.size) : ApaO u' v := fun q h1 h2 => by
  rcases ho with e | e
  · exact h q (e ▸ h1) h2
  · rw [e] at h1
    have := (hv.block q h2).2
    simp at h1
    omega
theorem blk_past {x x' : World} {b B : Nat} {e : TypeId} {m : Nat} {u : Value} {n : Nat} {L : List Int} {a0 a1 a2 : Value} (h : Blk3 x b a0 a1 a2) (hu : OwnM x B e m u n L) (hb : b < B) (hg : x.grownBy x' u.ownBlock) : Blk3 x' b a0 a1 a2 :=
  h.kept (hg.block b h.lt (fun q => by have := (hu.block b q.symm).1; omega))
theorem below_past {w x x' : World} {B : Nat} {e : TypeId} {m : Nat} {u : Value} {n : Nat} {L : List Int} (h : Below w.heap.size w x) (hu : OwnM x B e m u n L) (hB : w.heap.size ≤ B) (hg : x.grownBy x' u.ownBlock) : Below w.heap.size w x' :=
  ⟨hg.os.trans h.os, hg.tape.trans h.tape, hg.output.trans h.output, Nat.le_trans h.size hg.size, fun i hi => (hg.block i (Nat.lt_of_lt_of_le hi h.size) (fun q => by have := (hu.block i q.symm).1; omega)).trans (h.block i hi)⟩
theorem Tog.put0 {w x x' : World} {b B : Nat} {u0 u1 u2 u : Value} {n0 n1 n2 k : Nat} {L0 L1 L2 L : List Int} (h : Tog w x b B u0 u1 u2 n0 n1 n2 L0 L1 L2) (ho : OwnM x' B 173 3 u k L) (hg : x.grownBy x' u0.ownBlock) (hat : u.ownBlock = u0.ownBlock ∨ u.ownBlock = some x.heap.size) : Tog w (x'.setCell ⟨b, 0, none⟩ u) b B u u1 u2 k n1 n2 L L1 L2 :=
  ⟨(below_past h.below h.o0 (by have := h.lo; omega) hg).setCell h.lo.1 _, (blk_past h.blk h.o0 h.lo.2.1 hg).set0 _, ⟨h.lo.1, h.lo.2.1, by have := h.lo.2.2; have := hg.size; simp [World.setCell]; omega⟩, ho.far h.lo.2.1 _, (h.o1.past hg h.a01).far h.lo.2.1 _, (h.o2.past hg h.a02).far h.lo.2.1 _, h.a01.moved h.o1 hat, h.a02.moved h.o2 hat, h.a12⟩
theorem Tog.put1 {w x x' : World} {b B : Nat} {u0 u1 u2 u : Value} {n0 n1 n2 k : Nat} {L0 L1 L2 L : List Int} (h : Tog w x b B u0 u1 u2 n0 n1 n2 L0 L1 L2) (ho : OwnM x' B 177 5 u k L) (hg : x.grownBy x' u1.ownBlock) (hat : u.ownBlock = u1.ownBlock ∨ u.ownBlock = some x.heap.size) : Tog w (x'.setCell ⟨b, 1, none⟩ u) b B u0 u u2 n0 k n2 L0 L L2 :=
  ⟨(below_past h.below h.o1 (by have := h.lo; omega) hg).setCell h.lo.1 _, (blk_past h.blk h.o1 h.lo.2.1 hg).set1 _, ⟨h.lo.1, h.lo.2.1, by have := h.lo.2.2; have := hg.size; simp [World.setCell]; omega⟩, (h.o0.past hg h.a01.symm).far h.lo.2.1 _, ho.far h.lo.2.1 _, (h.o2.past hg h.a12).far h.lo.2.1 _, (h.a01.symm.moved h.o0 hat).symm, h.a02, h.a12.moved h.o2 hat⟩
theorem Tog.put2 {w x x' : World} {b B : Nat} {u0 u1 u2 u : Value} {n0 n1 n2 k : Nat} {L0 L1 L2 L : List Int} (h : Tog w x b B u0 u1 u2 n0 n1 n2 L0 L1 L2) (ho : OwnM x' B 181 4 u k L) (hg : x.grownBy x' u2.ownBlock) (hat : u.ownBlock = u2.ownBlock ∨ u.ownBlock = some x.heap.size) : Tog w (x'.setCell ⟨b, 2, none⟩ u) b B u0 u1 u n0 n1 k L0 L1 L :=
  ⟨(below_past h.below h.o2 (by have := h.lo; omega) hg).setCell h.lo.1 _, (blk_past h.blk h.o2 h.lo.2.1 hg).set2 _, ⟨h.lo.1, h.lo.2.1, by have := h.lo.2.2; have := hg.size; simp [World.setCell]; omega⟩, (h.o0.past hg h.a02.symm).far h.lo.2.1 _, (h.o1.past hg h.a12.symm).far h.lo.2.1 _, ho.far h.lo.2.1 _, h.a01, (h.a02.symm.moved h.o0 hat).symm, (h.a12.symm.moved h.o1 hat).symm⟩
theorem apartD_apa {x : World} {B0 B1 : Nat} {R : Sto} {u0 u1 u2 : Value} (r0 : Row x B0 3 R.nc R.c u0) (r1 : Row x B1 5 R.nl R.l u1) (h01 : ApaO u0 u1) (h02 : ApaO u0 u2) (h12 : ApaO u1 u2) : ApartD R u0 u1 u2 := by
  have own : ∀ {B m n : Nat} {F : Nat → Int} {u : Value}, Row x B m n F u → 0 < n → ∃ k, u.ownBlock = some k := fun hr hn => by
    obtain ⟨ao, cp, rfl, hr⟩ := hr
    obtain ⟨g, o, rfl, _⟩ := hr hn
    exact ⟨g, rfl⟩
  refine ⟨fun h0 _ e => ?_, fun h0 _ e => ?_, fun h1 _ e => ?_⟩
  · obtain ⟨k, hk⟩ := own r0 h0
    exact h01 k hk (e ▸ hk)
  · obtain ⟨k, hk⟩ := own r0 h0
    exact h02 k hk (e ▸ hk)
  · obtain ⟨k, hk⟩ := own r1 h1
    exact h12 k hk (e ▸ hk)
set_option maxRecDepth 100000 in
set_option maxHeartbeats 8000000 in
theorem together_any (n : Nat) (S : Nat → Sto) (V : Nat → Nat → Value) (v : Value) (B : Nat) (w : World) (h : Stos w B n S V v) (hn : n ≤ 6) (hs : ∀ i, i < n → (S i).nc ≤ 200 ∧ (S i).nl ≤ 200 ∧ (S i).nw ≤ 200) :
    Calls Tryz.prog 79 #[v] w (NewSto w (unionS n S)) := by
  obtain ⟨ao, cp, rfl⟩ := h.form
  have H : Hid (Stos w B n S V (.slice ao n cp)) := h
  have HN : Hid (∀ i, i < n → (S i).nc ≤ 200 ∧ (S i).nl ≤ 200 ∧ (S i).nw ≤ 200) := hs
  clear h hs
  go_enter Tryz.func79, Tryz.ntmps79
  go_wp2
  go_loopw [8] (fun i wr => ∃ (k p0 p1 p2 : Nat) (a0 a1 a2 : Option Addr) (c0 c1 c2 : Nat), k ≤ n ∧ i = .int .i64 k ∧ Hid (p0 = sumN (fun i => (S i).nc) k ∧ p1 = sumN (fun i => (S i).nl) k ∧ p2 = sumN (fun i => (S i).nw) k) ∧ Hid (Tog w wr (w.heap.size + 1) (w.heap.size + 2) (.slice a0 p0 c0) (.slice a1 p1 c1) (.slice a2 p2 c2) p0 p1 p2 (allL 3 (fun i => (S i).nc) (fun i => (S i).c) k) (allL 5 (fun i => (S i).nl) (fun i => (S i).l) k) (allL 4 (fun i => (S i).nw) (fun i => (S i).k) k)) ∧ Hid (Blk3 wr w.heap.size (.slice none 0 0) (.slice none 0 0) (.slice none 0 0))) (fun i _ => n - (intOf i).toNat)
  case atStart =>
    refine ⟨0, 0, 0, 0, none, none, none, 0, 0, 0, Nat.zero_le _, rfl, ⟨rfl, rfl, rfl⟩, ⟨(below_alloc _ _).alloc (by simp) _, ?_, ⟨by omega, by omega, by simp⟩, OwnM.nil _ _ _ _, OwnM.nil _ _ _ _, OwnM.nil _ _ _ _, (fun q e => by cases e), (fun q e => by cases e), (fun q e => by cases e)⟩, (Blk3.new w _ _ _ _).alloc _⟩
    have := Blk3.new (w.alloc (.cells #[.slice none 0 0, .slice none 0 0, .slice none 0 0] 127)) (.slice none 0 0) (.slice none 0 0) (.slice none 0 0) 127
    rwa [World.size_alloc] at this
  case round =>
    obtain ⟨k, p0, p1, p2, a0, a1, a2, c0, c1, c2, hk, rfl, HS, HT, HR⟩ := hrel
    have q0 : p0 ≤ 1200 := by rw [HS.out.1]; exact sum_small (fun i hi => (HN.out i hi).1) hn hk
    have q1 : p1 ≤ 1200 := by rw [HS.out.2.1]; exact sum_small (fun i hi => (HN.out i hi).2.1) hn hk
    have q2 : p2 ≤ 1200 := by rw [HS.out.2.2]; exact sum_small (fun i hi => (HN.out i hi).2.2) hn hk
    by_cases hlt : k < n
    · obtain ⟨g, o, rfl, _, hg, ⟨b0, b1, b2⟩, sk⟩ := H.out.at hlt
      replace b0 := (HT.out.below.cell (p := ⟨g, o + k * 3, none⟩) hg).trans b0
      replace b1 := (HT.out.below.cell (p := ⟨g, o + k * 3 + 1, none⟩) hg).trans b1
      replace b2 := (HT.out.below.cell (p := ⟨g, o + k * 3 + 2, none⟩) hg).trans b2
      obtain ⟨i0', d0, i1', d1, i2', d2, e0, e1, e2⟩ := sk.form
      obtain ⟨n0, hn0⟩ : ∃ x, (S k).nc = x := ⟨_, rfl⟩
      obtain ⟨n1, hn1⟩ : ∃ x, (S k).nl = x := ⟨_, rfl⟩
      obtain ⟨n2, hn2⟩ : ∃ x, (S k).nw = x := ⟨_, rfl⟩
      rw [e0, hn0] at b0
      rw [e1, hn1] at b1
      rw [e2, hn2] at b2
      have SK : Hid (Row w B 3 n0 (S k).c (.slice i0' n0 d0) ∧ Row w B 5 n1 (S k).l (.slice i1' n1 d1) ∧ Row w B 4 n2 (S k).k (.slice i2' n2 d2)) := by
        rw [e0, e1, e2] at sk
        obtain ⟨h0, h1, h2⟩ := sk
        rw [hn0] at h0
        rw [hn1] at h1
        rw [hn2] at h2
        exact ⟨h0, h1, h2⟩
      have hB := HN.out k hlt
      rw [hn0, hn1, hn2] at hB
      obtain ⟨m0, m1, m2⟩ := hB
      have HS1 : Hid (p0 + n0 = sumN (fun i => (S i).nc) (k + 1) ∧ p1 + n1 = sumN (fun i => (S i).nl) (k + 1) ∧ p2 + n2 = sumN (fun i => (S i).nw) (k + 1)) := by
        refine ⟨?_, ?_, ?_⟩
        · show _ = sumN (fun i => (S i).nc) k + (S k).nc
          rw [HS.out.1, hn0]
        · show _ = sumN (fun i => (S i).nl) k + (S k).nl
          rw [HS.out.2.1, hn1]
        · show _ = sumN (fun i => (S i).nw) k + (S k).nw
          rw [HS.out.2.2, hn2]
      obtain ⟨L0, hL0⟩ : ∃ L, allL 3 (fun i => (S i).nc) (fun i => (S i).c) k = L := ⟨_, rfl⟩
      obtain ⟨L1, hL1⟩ : ∃ L, allL 5 (fun i => (S i).nl) (fun i => (S i).l) k = L := ⟨_, rfl⟩
      obtain ⟨L2, hL2⟩ : ∃ L, allL 4 (fun i => (S i).nw) (fun i => (S i).k) k = L := ⟨_, rfl⟩
      have HL1 : Hid (L0 ++ nums (S k).c (n0 * 3) = allL 3 (fun i => (S i).nc) (fun i => (S i).c) (k + 1) ∧ L1 ++ nums (S k).l (n1 * 5) = allL 5 (fun i => (S i).nl) (fun i => (S i).l) (k + 1) ∧ L2 ++ nums (S k).k (n2 * 4) = allL 4 (fun i => (S i).nw) (fun i => (S i).k) (k + 1)) := by
        rw [← hn0, ← hn1, ← hn2, ← hL0, ← hL1, ← hL2]
        exact ⟨rfl, rfl, rfl⟩
      have HT := HT.out
      rw [hL0, hL1, hL2] at HT
      clear sk e0 e1 e2 hn0 hn1 hn2 hL0 hL1 hL2 HS
      have hq : Hid (w.heap.size + 2 ≤ wr.heap.size) := HT.lo.2.2
      have NQ : Hid ((∀ q, (Value.slice a0 p0 c0).ownBlock = some q → q ≠ wr.heap.size) ∧ (∀ q, (Value.slice a1 p1 c1).ownBlock = some q → q ≠ wr.heap.size) ∧ (∀ q, (Value.slice a2 p2 c2).ownBlock = some q → q ≠ wr.heap.size)) := ⟨fun q e => by have := (HT.o0.block q e).2; omega, fun q e => by have := (HT.o1.block q e).2; omega, fun q e => by have := (HT.o2.block q e).2; omega⟩
      have TT : Hid (Tog w (wr.alloc (.cells #[.slice i0' n0 d0, .slice i1' n1 d1, .slice i2' n2 d2] 127)) (w.heap.size + 1) (w.heap.size + 2) (.slice a0 p0 c0) (.slice a1 p1 c1) (.slice a2 p2 c2) p0 p1 p2 L0 L1 L2) := HT.later (below_alloc _ _)
      have Q1 : Hid (Blk3 (wr.alloc (.cells #[.slice i0' n0 d0, .slice i1' n1 d1, .slice i2' n2 d2] 127)) wr.heap.size (.slice i0' n0 d0) (.slice i1' n1 d1) (.slice i2' n2 d2)) := Blk3.new _ _ _ _ _
      have RB : Hid (Blk3 (wr.alloc (.cells #[.slice i0' n0 d0, .slice i1' n1 d1, .slice i2' n2 d2] 127)) w.heap.size (.slice none 0 0) (.slice none 0 0) (.slice none 0 0)) := HR.out.alloc _
      clear HT HR
      go_upto_region 5 with fail
      generalize wr.alloc (.cells #[.slice i0' n0 d0, .slice i1' n1 d1, .slice i2' n2 d2] 127) = x1 at TT Q1 RB ⊢
      clear b0 b1 b2
      generalize wr.heap.size = q at hq NQ Q1 ⊢
      obtain ⟨⟨t0, t1, t2⟩, ft0, ft1, ft2⟩ := TT.out.blk
      obtain ⟨⟨s0, s1, s2⟩, _⟩ := Q1.out
      obtain ⟨i0, hi, hz0, hz1, hz2⟩ := info_parts info_Cell
      have hbs : w.heap.size + 2 ≤ x1.heap.size := TT.out.lo.2.2
      go_upto_region 6 with (at_builtin; refine wpList_appL 173 i0 (.agg #[.int .i64 0, .int .i64 0, .int .i64 0]) 3 24 rfl _ _ 123 rfl Tryz.underlying123 hi hz0 hz1 hz2 rfl (by omega) (by omega) _ (w.heap.size + 2) p0 _ (.slice a0 p0 c0) rfl TT.out.o0 B n0 _ _ rfl (SK.out.1.later TT.out.below) (by omega) hbs ?_; intro ao0 cp0 y OY GY AY; obtain ⟨⟨t0, t1, t2⟩, ft0, ft1, ft2⟩ := blk_past TT.out.blk TT.out.o0 TT.out.lo.2.1 GY)
      have TT' : Hid (Tog w (y.setCell ⟨w.heap.size + 1, 0, none⟩ (.slice ao0 (p0 + n0) cp0)) (w.heap.size + 1) (w.heap.size + 2) (.slice ao0 (p0 + n0) cp0) (.slice a1 p1 c1) (.slice a2 p2 c2) (p0 + n0) p1 p2 (L0 ++ nums (S k).c (n0 * 3)) L1 L2) := TT.out.put0 OY GY AY
      have Q1' : Hid (Blk3 (y.setCell ⟨w.heap.size + 1, 0, none⟩ (.slice ao0 (p0 + n0) cp0)) q (.slice i0' n0 d0) (.slice i1' n1 d1) (.slice i2' n2 d2)) := (Q1.out.kept (GY.block q Q1.out.lt (fun e => NQ.out.1 q e.symm rfl))).setFar (by show q ≠ w.heap.size + 1; have := hq.out; omega) _
      have RB' : Hid (Blk3 (y.setCell ⟨w.heap.size + 1, 0, none⟩ (.slice ao0 (p0 + n0) cp0)) w.heap.size (.slice none 0 0) (.slice none 0 0) (.slice none 0 0)) := (blk_past RB.out TT.out.o0 (by omega) GY).setFar (by simp) _
      generalize y.setCell ⟨w.heap.size + 1, 0, none⟩ (.slice ao0 (p0 + n0) cp0) = z0 at TT' Q1' RB' ⊢
      clear TT Q1 RB t0 t1 t2 ft0 ft1 ft2 s0 s1 s2 OY GY AY hi hz0 hz1 hz2 hbs i0
      have TT := TT'
      have Q1 := Q1'
      have RB := RB'
      clear TT' Q1' RB'
      obtain ⟨⟨t0, t1, t2⟩, ft0, ft1, ft2⟩ := TT.out.blk
      obtain ⟨⟨s0, s1, s2⟩, _⟩ := Q1.out
      obtain ⟨i0, hi, hz0, hz1, hz2⟩ := info_parts info_Lock
      have hbs : w.heap.size + 2 ≤ z0.heap.size := TT.out.lo.2.2
      go_upto_region 7 with (at_builtin; refine wpList_appL 177 i0 (.agg #[.int .i64 0, .int .i64 0, .int .i64 0, .int .i64 0, .int .i64 0]) 5 40 rfl _ _ 124 rfl Tryz.underlying124 hi hz0 hz1 hz2 rfl (by omega) (by omega) _ (w.heap.size + 2) p1 _ (.slice a1 p1 c1) rfl TT.out.o1 B n1 _ _ rfl (SK.out.2.1.later TT.out.below) (by omega) hbs ?_; intro ao1 cp1 y OY GY AY; obtain ⟨⟨t0, t1, t2⟩, ft0, ft1, ft2⟩ := blk_past TT.out.blk TT.out.o1 TT.out.lo.2.1 GY)
      have TT' : Hid (Tog w (y.setCell ⟨w.heap.size + 1, 1, none⟩ (.slice ao1 (p1 + n1) cp1)) (w.heap.size + 1) (w.heap.size + 2) (.slice ao0 (p0 + n0) cp0) (.slice ao1 (p1 + n1) cp1) (.slice a2 p2 c2) (p0 + n0) (p1 + n1) p2 (L0 ++ nums (S k).c (n0 * 3)) (L1 ++ nums (S k).l (n1 * 5)) L2) := TT.out.put1 OY GY AY
      have Q1' : Hid (Blk3 (y.setCell ⟨w.heap.size + 1, 1, none⟩ (.slice ao1 (p1 + n1) cp1)) q (.slice i0' n0 d0) (.slice i1' n1 d1) (.slice i2' n2 d2)) := (Q1.out.kept (GY.block q Q1.out.lt (fun e => NQ.out.2.1 q e.symm rfl))).setFar (by show q ≠ w.heap.size + 1; have := hq.out; omega) _
      have RB' : Hid (Blk3 (y.setCell ⟨w.heap.size + 1, 1, none⟩ (.slice ao1 (p1 + n1) cp1)) w.heap.size (.slice none 0 0) (.slice none 0 0) (.slice none 0 0)) := (blk_past RB.out TT.out.o1 (by omega) GY).setFar (by simp) _
      generalize y.setCell ⟨w.heap.size + 1, 1, none⟩ (.slice ao1 (p1 + n1) cp1) = z1 at TT' Q1' RB' ⊢
      clear TT Q1 RB t0 t1 t2 ft0 ft1 ft2 s0 s1 s2 OY GY AY hi hz0 hz1 hz2 hbs i0
      have TT := TT'
      have Q1 := Q1'
      have RB := RB'
      clear TT' Q1' RB'
      obtain ⟨⟨t0, t1, t2⟩, ft0, ft1, ft2⟩ := TT.out.blk
      obtain ⟨⟨s0, s1, s2⟩, _⟩ := Q1.out
      obtain ⟨i0, hi, hz0, hz1, hz2⟩ := info_parts info_Write
      have hbs : w.heap.size + 2 ≤ z1.heap.size := TT.out.lo.2.2
      go_upto_region 8 with (at_builtin; refine wpList_appL 181 i0 (.agg #[.int .i64 0, .int .i64 0, .int .i64 0, .int .i64 0]) 4 32 rfl _ _ 125 rfl Tryz.underlying125 hi hz0 hz1 hz2 rfl (by omega) (by omega) _ (w.heap.size + 2) p2 _ (.slice a2 p2 c2) rfl TT.out.o2 B n2 _ _ rfl (SK.out.2.2.later TT.out.below) (by omega) hbs ?_; intro ao2 cp2 y OY GY AY; obtain ⟨⟨t0, t1, t2⟩, ft0, ft1, ft2⟩ := blk_past TT.out.blk TT.out.o2 TT.out.lo.2.1 GY)
      have TT' : Hid (Tog w (y.setCell ⟨w.heap.size + 1, 2, none⟩ (.slice ao2 (p2 + n2) cp2)) (w.heap.size + 1) (w.heap.size + 2) (.slice ao0 (p0 + n0) cp0) (.slice ao1 (p1 + n1) cp1) (.slice ao2 (p2 + n2) cp2) (p0 + n0) (p1 + n1) (p2 + n2) (L0 ++ nums (S k).c (n0 * 3)) (L1 ++ nums (S k).l (n1 * 5)) (L2 ++ nums (S k).k (n2 * 4))) := TT.out.put2 OY GY AY
      have Q1' : Hid (Blk3 (y.setCell ⟨w.heap.size + 1, 2, none⟩ (.slice ao2 (p2 + n2) cp2)) q (.slice i0' n0 d0) (.slice i1' n1 d1) (.slice i2' n2 d2)) := (Q1.out.kept (GY.block q Q1.out.lt (fun e => NQ.out.2.2 q e.symm rfl))).setFar (by show q ≠ w.heap.size + 1; have := hq.out; omega) _
      have RB' : Hid (Blk3 (y.setCell ⟨w.heap.size + 1, 2, none⟩ (.slice ao2 (p2 + n2) cp2)) w.heap.size (.slice none 0 0) (.slice none 0 0) (.slice none 0 0)) := (blk_past RB.out TT.out.o2 (by omega) GY).setFar (by simp) _
      generalize y.setCell ⟨w.heap.size + 1, 2, none⟩ (.slice ao2 (p2 + n2) cp2) = z2 at TT' Q1' RB' ⊢
      clear TT Q1 RB t0 t1 t2 ft0 ft1 ft2 s0 s1 s2 OY GY AY hi hz0 hz1 hz2 hbs i0
      have TT := TT'
      have Q1 := Q1'
      have RB := RB'
      clear TT' Q1' RB'
      rw [HL1.out.1, HL1.out.2.1, HL1.out.2.2] at TT
      clear Q1 NQ hq SK HL1
      go_wp2
      go_roundw
      case rel => exact ⟨k + 1, p0 + n0, p1 + n1, p2 + n2, ao0, ao1, ao2, cp0, cp1, cp2, by omega, by go_num, HS1, TT, RB⟩
      case measure => simp [intOf]; omega
    · obtain rfl : k = n := by omega
      obtain ⟨⟨t0, t1, t2⟩, ft0, ft1, ft2⟩ := HT.out.blk
      obtain ⟨⟨r0, r1, r2⟩, f0, f1, f2⟩ := HR.out
      have HE : Hid (unionS k S = ⟨p0, fun p => (allL 3 (fun i => (S i).nc) (fun i => (S i).c) k).getD p 0, p1, fun p => (allL 5 (fun i => (S i).nl) (fun i => (S i).l) k).getD p 0, p2, fun p => (allL 4 (fun i => (S i).nw) (fun i => (S i).k) k).getD p 0⟩) := by
        unfold Hid unionS
        rw [← HS.out.1, ← HS.out.2.1, ← HS.out.2.2]
      have o0 := (HT.out.o0.own (by rw [all_len, HS.out.1])).row
      have o1 := (HT.out.o1.own (by rw [all_len, HS.out.2.1])).row
      have o2 := (HT.out.o2.own (by rw [all_len, HS.out.2.2])).row
      have HO : Hid (St wr (w.heap.size + 2) (unionS k S) (.slice a0 p0 c0) (.slice a1 p1 c1) (.slice a2 p2 c2) ∧ FreeS wr (unionS k S) (.slice a0 p0 c0) (.slice a1 p1 c1) (.slice a2 p2 c2) ∧ ApartD (unionS k S) (.slice a0 p0 c0) (.slice a1 p1 c1) (.slice a2 p2 c2)) := by
        rw [HE.out]
        exact ⟨⟨o0.1, o1.1, o2.1⟩, ⟨o0.2, o1.2, o2.2⟩, apartD_apa o0.1 o1.1 HT.out.a01 HT.out.a02 HT.out.a12⟩
      have hn0 : Hid ((unionS k S).nc = p0 ∧ (unionS k S).nl = p1 ∧ (unionS k S).nw = p2) := by rw [HE.out]; exact ⟨rfl, rfl, rfl⟩
      clear o0 o1 o2 HE HS
      unfold NewSto
      go_wp2
      refine bodyPost_ret (v := .agg #[.slice a0 p0 c0, .slice a1 p1 c1, .slice a2 p2 c2]) (by simp [results, Tryz.results79, go_sem, r0, r1, r2]) rfl ?_
      have hlo : w.heap.size < w.heap.size + 2 := by omega
      refine ⟨a0, c0, a1, c1, a2, c2, ?_, ?_, ((HT.out.below.setCell (Nat.le_refl _) _).setCell (Nat.le_refl _) _).setCell (Nat.le_refl _) _⟩
      · rw [hn0.out.1, hn0.out.2.1, hn0.out.2.2]
      · rw [hn0.out.1, hn0.out.2.1, hn0.out.2.2]
        exact ⟨(((HO.out.1.far hlo _).far hlo _).far hlo _).mono (by omega), ((HO.out.2.1.far _ _).far _ _).far _ _, HO.out.2.2⟩
end Go.Proofs.YtpfmifpjmcmlaaaGreat

namespace Go.Proofs.YtpfmifpjmcmlaaaGreat
open Go.RowKit

/-- The element ahead and the one that is asked, and that nothing old has turned. -/
def PrevWrite (w : World) (g o k N : Nat) (m0 m1 m2 m3 n0 n1 n2 n3 : Int) (x : World) : Prop := (x.cell? ⟨g, o + (k - 1) * 4, none⟩ = some (.int .i64 m0) ∧ x.cell? ⟨g, o + (k - 1) * 4 + 1, none⟩ = some (.int .i64 m1) ∧ x.cell? ⟨g, o + (k - 1) * 4 + 2, none⟩ = some (.int .i64 m2) ∧ x.cell? ⟨g, o + (k - 1) * 4 + 3, none⟩ = some (.int .i64 m3) ∧ x.cell? ⟨N, 0, none⟩ = some (.int .i64 n0) ∧ x.cell? ⟨N, 1, none⟩ = some (.int .i64 n1) ∧ x.cell? ⟨N, 2, none⟩ = some (.int .i64 n2) ∧ x.cell? ⟨N, 3, none⟩ = some (.int .i64 n3)) ∧ Below w.heap.size w x
theorem PrevWrite.later {w x x' : World} {g o k N : Nat} {m0 m1 m2 m3 n0 n1 n2 n3 : Int} (h : PrevWrite w g o k N m0 m1 m2 m3 n0 n1 n2 n3 x) (hb : Below x.heap.size x x') : PrevWrite w g o k N m0 m1 m2 m3 n0 n1 n2 n3 x' := by
  obtain ⟨⟨hx0, hx1, hx2, hx3, hx4, hx5, hx6, hx7⟩, hy⟩ := h
  exact ⟨⟨(hb.cell (World.block_lt_of_cell? x _ hx0)).trans hx0, (hb.cell (World.block_lt_of_cell? x _ hx1)).trans hx1, (hb.cell (World.block_lt_of_cell? x _ hx2)).trans hx2, (hb.cell (World.block_lt_of_cell? x _ hx3)).trans hx3, (hb.cell (World.block_lt_of_cell? x _ hx4)).trans hx4, (hb.cell (World.block_lt_of_cell? x _ hx5)).trans hx5, (hb.cell (World.block_lt_of_cell? x _ hx6)).trans hx6, (hb.cell (World.block_lt_of_cell? x _ hx7)).trans hx7⟩, hy.trans (hb.mono hy.size)⟩
/-- The element that is asked, and that nothing old has turned. -/
def FirstWrite (w : World) (N : Nat) (n0 n1 n2 n3 : Int) (x : World) : Prop := (x.cell? ⟨N, 0, none⟩ = some (.int .i64 n0) ∧ x.cell? ⟨N, 1, none⟩ = some (.int .i64 n1) ∧ x.cell? ⟨N, 2, none⟩ = some (.int .i64 n2) ∧ x.cell? ⟨N, 3, none⟩ = some (.int .i64 n3)) ∧ Below w.heap.size w x
theorem FirstWrite.later {w x x' : World} {N : Nat} {n0 n1 n2 n3 : Int} (h : FirstWrite w N n0 n1 n2 n3 x) (hb : Below x.heap.size x x') : FirstWrite w N n0 n1 n2 n3 x' := by
  obtain ⟨⟨hx0, hx1, hx2, hx3⟩, hy⟩ := h
  exact ⟨⟨(hb.cell (World.block_lt_of_cell? x _ hx0)).trans hx0, (hb.cell (World.block_lt_of_cell? x _ hx1)).trans hx1, (hb.cell (World.block_lt_of_cell? x _ hx2)).trans hx2, (hb.cell (World.block_lt_of_cell? x _ hx3)).trans hx3⟩, hy.trans (hb.mono hy.size)⟩
set_option maxRecDepth 100000 in
set_option maxHeartbeats 8000000 in
theorem writesFault_any (S : Sto) (v : Value) (B : Nat) (w : World) (h : Row w B 4 S.nw S.k v) (hn : S.nw ≤ 200) :
    Calls Tryz.prog 112 #[v] w fun e w' => e = .returned (.int .i64 (scan (writeF S.k) S.nw)) ∧ Below w.heap.size w w' := by
  obtain ⟨ao, cp, rfl⟩ := h.form
  have H : Hid (Row w B 4 S.nw S.k (.slice ao S.nw cp)) := h
  clear h
  go_enter Tryz.func112, Tryz.ntmps112
  go_wp2
  go_loopw [8] (fun i wr => ∃ k : Nat, k ≤ S.nw ∧ i = .int .i64 k ∧ Hid (scan (writeF S.k) k = 0) ∧ Below w.heap.size w wr) (fun i _ => S.nw - (intOf i).toNat)
  case atStart => exact ⟨0, Nat.zero_le _, rfl, rfl, Below.refl _ _⟩
  case round =>
    obtain ⟨k, hk, rfl, HS, hbw⟩ := hrel
    by_cases hlt : k < S.nw
    case neg =>
      have en : k = S.nw := by omega
      have E : Hid (scan (writeF S.k) S.nw = 0) := en ▸ HS.out
      clear HS
      go_wp2
      go_ret
      exact ⟨by rw [E.out]; rfl, hbw⟩
    obtain ⟨g, o, rfl, _, hg, x0, x1, x2, x3⟩ := (H.out.later hbw).at4 hlt
    obtain ⟨n0, N0⟩ : ∃ x, S.k (k * 4) = x := ⟨_, rfl⟩
    rw [N0] at x0
    obtain ⟨n1, N1⟩ : ∃ x, S.k (k * 4 + 1) = x := ⟨_, rfl⟩
    rw [N1] at x1
    obtain ⟨n2, N2⟩ : ∃ x, S.k (k * 4 + 2) = x := ⟨_, rfl⟩
    rw [N2] at x2
    obtain ⟨n3, N3⟩ : ∃ x, S.k (k * 4 + 3) = x := ⟨_, rfl⟩
    rw [N3] at x3
    have NN : Hid (S.k (k * 4) = n0 ∧ S.k (k * 4 + 1) = n1 ∧ S.k (k * 4 + 2) = n2 ∧ S.k (k * 4 + 3) = n3) := ⟨N0, N1, N2, N3⟩
    clear N0 N1 N2 N3
    have FT : Hid (fits S.k k ↔ (n3 = 4 → n1 = n2) ∧ (n3 ≠ 4 → n2 < n1)) := by
      unfold Hid fits
      rw [NN.out.2.1, NN.out.2.2.1, NN.out.2.2.2]
    by_cases h0 : faultOf n0 = 0
    case neg =>
      obtain ⟨f, hff⟩ : ∃ f, faultOf n0 = f := ⟨_, rfl⟩
      have L0 : Hid (∀ w, Calls Tryz.prog 151 #[.int .i64 n0] w fun e w' => e = .returned (.int .i64 f) ∧ w' = w) := fun w => hff ▸ keyFault_any n0 w
      have E : Hid (scan (writeF S.k) S.nw = f) := by
        have : writeF S.k k = f := by
          unfold writeF
          rw [NN.out.1, NN.out.2.1, NN.out.2.2.1, NN.out.2.2.2]
          rw [if_pos h0]; exact hff
        exact (scan_stop HS.out (by rw [this, ← hff]; exact h0) hlt).trans this
      have hfn : (f == 0) = false := beq_eq_false_iff_ne.2 (by rw [← hff]; exact h0)
      clear hff h0 HS NN FT
      go_wp2_with fail
      refine (L0.out _).mono ?_
      rintro e w1 ⟨rfl, rfl⟩
      go_wp2
      go_ret
      exact ⟨by rw [E.out]; rfl, by first | exact hbw.alloc hbw.size _ | exact below_dn (hbw.alloc hbw.size _) _ | exact below_dn (below_dn (hbw.alloc hbw.size _) _) _⟩
    have L0 : Hid (∀ w, Calls Tryz.prog 151 #[.int .i64 n0] w fun e w' => e = .returned (.int .i64 0) ∧ w' = w) := fun w => h0 ▸ keyFault_any n0 w
    have G0 : Hid (faultOf n0 = 0) := h0
    clear h0
    by_cases h1 : 1 ≤ n1 ∧ n1 ≤ 100000
    case neg =>
      have L1 : Hid (decide (1 ≤ n1 ∧ n1 ≤ 100000) = false) := decide_eq_false h1
      have E : Hid (scan (writeF S.k) S.nw = 3) := by
        have : writeF S.k k = 3 := by
          unfold writeF
          rw [NN.out.1, NN.out.2.1, NN.out.2.2.1, NN.out.2.2.2]
          rw [if_neg (fun h => h G0.out)]
          rw [if_pos (by omega)]
        exact (scan_stop HS.out (by rw [this]; decide) hlt).trans this
      clear h1 HS NN FT G0
      go_wp2_with fail
      refine (L0.out _).mono ?_
      rintro e w1 ⟨rfl, rfl⟩
      go_wp2_with fail
      refine (isTime_is _ false L1.out _).mono ?_
      rintro e w1 ⟨rfl, rfl⟩
      go_wp2
      go_ret
      exact ⟨by rw [E.out]; rfl, by first | exact hbw.alloc hbw.size _ | exact below_dn (hbw.alloc hbw.size _) _ | exact below_dn (below_dn (hbw.alloc hbw.size _) _) _⟩
    have L1 : Hid (decide (1 ≤ n1 ∧ n1 ≤ 100000) = true) := decide_eq_true h1
    have G1 : Hid (1 ≤ n1 ∧ n1 ≤ 100000) := h1
    clear h1
    by_cases h2 : 1 ≤ n2 ∧ n2 ≤ 100000
    case neg =>
      have L2 : Hid (decide (1 ≤ n2 ∧ n2 ≤ 100000) = false) := decide_eq_false h2
      have E : Hid (scan (writeF S.k) S.nw = 3) := by
        have : writeF S.k k = 3 := by
          unfold writeF
          rw [NN.out.1, NN.out.2.1, NN.out.2.2.1, NN.out.2.2.2]
          rw [if_neg (fun h => h G0.out)]
          rw [if_pos (by omega)]
        exact (scan_stop HS.out (by rw [this]; decide) hlt).trans this
      clear h2 HS NN FT G0 G1
      go_wp2_with fail
      refine (L0.out _).mono ?_
      rintro e w1 ⟨rfl, rfl⟩
      go_wp2_with fail
      refine (isTime_is _ true L1.out _).mono ?_
      rintro e w1 ⟨rfl, rfl⟩
      go_wp2_with fail
      refine (isTime_is _ false L2.out _).mono ?_
      rintro e w1 ⟨rfl, rfl⟩
      go_wp2
      go_ret
      exact ⟨by rw [E.out]; rfl, by first | exact hbw.alloc hbw.size _ | exact below_dn (hbw.alloc hbw.size _) _ | exact below_dn (below_dn (hbw.alloc hbw.size _) _) _⟩
    have L2 : Hid (decide (1 ≤ n2 ∧ n2 ≤ 100000) = true) := decide_eq_true h2
    have G2 : Hid (1 ≤ n2 ∧ n2 ≤ 100000) := h2
    clear h2
    by_cases h3 : 1 ≤ n3 ∧ n3 ≤ 3
    · have L3 : Hid (decide (1 ≤ n3 ∧ n3 ≤ 3) = true) := decide_eq_true h3
      have G3 : Hid (1 ≤ n3 ∧ n3 ≤ 3) := h3
      clear h3
      by_cases hf : (n3 = 4 → n1 = n2) ∧ (n3 ≠ 4 → n2 < n1)
      · have D : Hid (∀ w, Calls Tryz.prog 157 #[.agg #[.int .i64 n0, .int .i64 n1, .int .i64 n2, .int .i64 n3]] w fun e w' => e = .returned (.bool true) ∧ Below w.heap.size w w') := fun w => commitFits_is n0 n1 n2 n3 true (decide_eq_true hf) w
        have hft : Hid (fits S.k k) := FT.out.2 hf
        clear hf
        rcases Nat.eq_zero_or_pos k with hk0 | hk0
        · have E : Hid (scan (writeF S.k) (k + 1) = 0) := by
            have : writeF S.k k = 0 := by
              unfold writeF
              rw [NN.out.1, NN.out.2.1, NN.out.2.2.1, NN.out.2.2.2]
              rw [if_neg (fun h => h G0.out)]
              have g1 := G1.out; have g2 := G2.out; have g3 := G3.out; rw [if_neg (by omega)]
              rw [if_neg (fun h => h.elim (fun q => by omega) (fun q => q hft.out))]
            exact scan_go HS.out this
          have dk : decide (0 < k) = false := decide_eq_false (by omega)
          have h0 : FirstWrite w wr.heap.size n0 n1 n2 n3 (wr.alloc (.cells #[.int .i64 n0, .int .i64 n1, .int .i64 n2, .int .i64 n3] 181)).drew := ⟨⟨World.cell?_alloc_mark wr _ _ _ 0, World.cell?_alloc_mark wr _ _ _ 1, World.cell?_alloc_mark wr _ _ _ 2, World.cell?_alloc_mark wr _ _ _ 3⟩, (hbw.alloc hbw.size _).drew⟩
          clear HS NN FT G0 G1 G2 G3 hk0 hft
          go_wp2_with fail
          refine (L0.out _).mono ?_
          rintro e w1 ⟨rfl, rfl⟩
          go_wp2_with fail
          refine (isTime_is _ true L1.out _).mono ?_
          rintro e w1 ⟨rfl, rfl⟩
          go_wp2_with fail
          refine (isTime_is _ true L2.out _).mono ?_
          rintro e w1 ⟨rfl, rfl⟩
          go_wp2_with fail
          refine (isLockKind_is _ true L3.out _).mono ?_
          rintro e w1 ⟨rfl, rfl⟩
          go_wp2_with fail
          refine wp_region_held_drew (S := FirstWrite w wr.heap.size n0 n1 n2 n3) (by kernel_rfl) h0 (fun hS => ?_)
          clear h0
          refine tkH 0 ?_ hS (fun wx hx => ?_) ?_; rotate_left
          · obtain ⟨⟨hx0, hx1, hx2, hx3⟩, _⟩ := hx; go_simp; try with_reducible rfl
          refine tkH 1 ?_ hS (fun wx hx => ?_) ?_; rotate_left
          · obtain ⟨⟨hx0, hx1, hx2, hx3⟩, _⟩ := hx; go_simp; try with_reducible rfl
          refine tkH 2 ?_ hS (fun wx hx => ?_) ?_; rotate_left
          · obtain ⟨⟨hx0, hx1, hx2, hx3⟩, _⟩ := hx; go_simp; try with_reducible rfl
          refine noH 3 hS ?_
          refine noH 4 hS ?_
          refine noH 5 hS ?_
          refine noH 6 hS ?_
          refine noH 7 hS ?_
          refine noH 8 hS ?_
          refine noH 9 hS ?_
          refine noH 10 hS ?_
          refine tkH 11 ?_ hS (fun wx hx => ?_) ?_; rotate_left
          · obtain ⟨⟨hx0, hx1, hx2, hx3⟩, _⟩ := hx; go_simp; try with_reducible rfl
          refine tkH 12 ?_ hS (fun wx hx => ?_) ?_; rotate_left
          · obtain ⟨⟨hx0, hx1, hx2, hx3⟩, _⟩ := hx; go_simp; try with_reducible rfl
          refine tkH 13 ?_ hS (fun wx hx => ?_) ?_; rotate_left
          · obtain ⟨⟨hx0, hx1, hx2, hx3⟩, _⟩ := hx; go_simp; try with_reducible rfl
          refine rdH 14 (fun K hK => ?_)
          go_simp
          go_wp2_with fail
          refine (D.out _).mono ?_
          rintro e w1 ⟨rfl, q1⟩
          have hS' := hS.later q1
          clear q1
          go_wp2_with fail
          refine hK.out _ _ hS' (fun hS => ?_)
          clear hK K hS'
          refine tkH 15 ?_ hS (fun wx hx => ?_) ?_; rotate_left
          · obtain ⟨⟨hx0, hx1, hx2, hx3⟩, _⟩ := hx; go_simp; try with_reducible rfl
          refine tkH 16 ?_ hS (fun wx hx => ?_) ?_; rotate_left
          · obtain ⟨⟨hx0, hx1, hx2, hx3⟩, _⟩ := hx; go_simp; try with_reducible rfl
          refine wpAnyH_done (by kernel_rfl) ?_ _
          go_simp
          go_wp2
          go_roundw
          case rel => exact ⟨k + 1, by omega, by go_num, E, hS.2⟩
          case measure => simp [intOf]; omega
        obtain ⟨g', o', he, _, _, y0, y1, y2, y3⟩ := (H.out.later hbw).at4 (k := k - 1) (by omega)
        simp only [Option.some.injEq, Addr.mk.injEq, and_true] at he
        obtain ⟨rfl, rfl⟩ := he
        obtain ⟨m0, M0⟩ : ∃ x, S.k ((k - 1) * 4) = x := ⟨_, rfl⟩
        rw [M0] at y0
        obtain ⟨m1, M1⟩ : ∃ x, S.k ((k - 1) * 4 + 1) = x := ⟨_, rfl⟩
        rw [M1] at y1
        obtain ⟨m2, M2⟩ : ∃ x, S.k ((k - 1) * 4 + 2) = x := ⟨_, rfl⟩
        rw [M2] at y2
        obtain ⟨m3, M3⟩ : ∃ x, S.k ((k - 1) * 4 + 3) = x := ⟨_, rfl⟩
        rw [M3] at y3
        have MM : Hid (S.k ((k - 1) * 4) = m0 ∧ S.k ((k - 1) * 4 + 1) = m1) := ⟨M0, M1⟩
        clear M0 M1 M2 M3
        have dk : decide (0 < k) = true := decide_eq_true hk0
        have hwr := wrap_pred k hk0 (by omega)
        have hkn : ((k - 1 : Nat) : Int) < (S.nw : Int) := by omega
        obtain ⟨r, HR⟩ : ∃ r, Hid (orOf (cmpOf m0 n0) (cmpOf m1 n1) = r) := ⟨_, rfl⟩
        have HO : Hid (r < 0 ↔ m0 < n0 ∨ m0 = n0 ∧ m1 < n1) := by unfold Hid; rw [← HR.out]; exact orOf_neg _ _ _ _
        have h0 : PrevWrite w g o k wr.heap.size m0 m1 m2 m3 n0 n1 n2 n3 (wr.alloc (.cells #[.int .i64 n0, .int .i64 n1, .int .i64 n2, .int .i64 n3] 181)).drew := ⟨⟨(World.cell?_alloc_lt _ _ _ hg).trans y0, (World.cell?_alloc_lt _ _ _ hg).trans y1, (World.cell?_alloc_lt _ _ _ hg).trans y2, (World.cell?_alloc_lt _ _ _ hg).trans y3, World.cell?_alloc_mark wr _ _ _ 0, World.cell?_alloc_mark wr _ _ _ 1, World.cell?_alloc_mark wr _ _ _ 2, World.cell?_alloc_mark wr _ _ _ 3⟩, (hbw.alloc hbw.size _).drew⟩
        by_cases hr : 0 ≤ r
        · have E : Hid (scan (writeF S.k) S.nw = 1) := by
            have : writeF S.k k = 1 := by
              unfold writeF
              rw [NN.out.1, NN.out.2.1, NN.out.2.2.1, NN.out.2.2.2]
              rw [if_neg (fun h => h G0.out)]
              have g1 := G1.out; have g2 := G2.out; have g3 := G3.out; rw [if_neg (by omega)]
              rw [MM.out.1, MM.out.2]
              have ho := HO.out
              rw [if_pos (Or.inl ⟨hk0, by omega⟩)]
            exact (scan_stop HS.out (by rw [this]; decide) hlt).trans this
          have dr : decide (0 ≤ r) = true := decide_eq_true hr
          clear HS NN FT G0 G1 G2 G3 MM HO hr hft
          go_wp2_with fail
          refine (L0.out _).mono ?_
          rintro e w1 ⟨rfl, rfl⟩
          go_wp2_with fail
          refine (isTime_is _ true L1.out _).mono ?_
          rintro e w1 ⟨rfl, rfl⟩
          go_wp2_with fail
          refine (isTime_is _ true L2.out _).mono ?_
          rintro e w1 ⟨rfl, rfl⟩
          go_wp2_with fail
          refine (isLockKind_is _ true L3.out _).mono ?_
          rintro e w1 ⟨rfl, rfl⟩
          go_wp2_with fail
          refine wp_region_held_drew (S := PrevWrite w g o k wr.heap.size m0 m1 m2 m3 n0 n1 n2 n3) (by kernel_rfl) h0 (fun hS => ?_)
          clear h0
          refine tkH 0 ?_ hS (fun wx hx => ?_) ?_; rotate_left
          · obtain ⟨⟨hx0, hx1, hx2, hx3, hx4, hx5, hx6, hx7⟩, _⟩ := hx; go_simp; try with_reducible rfl
          refine tkH 1 ?_ hS (fun wx hx => ?_) ?_; rotate_left
          · obtain ⟨⟨hx0, hx1, hx2, hx3, hx4, hx5, hx6, hx7⟩, _⟩ := hx; go_simp; try with_reducible rfl
          refine tkH 2 ?_ hS (fun wx hx => ?_) ?_; rotate_left
          · obtain ⟨⟨hx0, hx1, hx2, hx3, hx4, hx5, hx6, hx7⟩, _⟩ := hx; go_simp; try with_reducible rfl
          refine tkH 3 ?_ hS (fun wx hx => ?_) ?_; rotate_left
          · obtain ⟨⟨hx0, hx1, hx2, hx3, hx4, hx5, hx6, hx7⟩, _⟩ := hx; go_simp; try with_reducible rfl
          refine tkH 4 ?_ hS (fun wx hx => ?_) ?_; rotate_left
          · obtain ⟨⟨hx0, hx1, hx2, hx3, hx4, hx5, hx6, hx7⟩, _⟩ := hx; go_simp; try with_reducible rfl
          refine tkH 5 ?_ hS (fun wx hx => ?_) ?_; rotate_left
          · obtain ⟨⟨hx0, hx1, hx2, hx3, hx4, hx5, hx6, hx7⟩, _⟩ := hx; go_simp; try with_reducible rfl
          refine tkH 6 ?_ hS (fun wx hx => ?_) ?_; rotate_left
          · obtain ⟨⟨hx0, hx1, hx2, hx3, hx4, hx5, hx6, hx7⟩, _⟩ := hx; go_simp; try with_reducible rfl
          refine tkH 7 ?_ hS (fun wx hx => ?_) ?_; rotate_left
          · obtain ⟨⟨hx0, hx1, hx2, hx3, hx4, hx5, hx6, hx7⟩, _⟩ := hx; go_simp; try with_reducible rfl
          refine tkH 8 ?_ hS (fun wx hx => ?_) ?_; rotate_left
          · obtain ⟨⟨hx0, hx1, hx2, hx3, hx4, hx5, hx6, hx7⟩, _⟩ := hx; go_simp; try with_reducible rfl
          refine rdH 9 (fun K hK => ?_)
          go_simp
          go_wp2_with fail
          refine (compareWrites_is _ _ _ _ _ _ _ _ r HR.out _).mono ?_
          rintro e w1 ⟨rfl, q1⟩
          have hS' := hS.later q1
          clear q1
          go_wp2_with fail
          refine hK.out _ _ hS' (fun hS => ?_)
          clear hK K hS'
          refine tkH 10 ?_ hS (fun wx hx => ?_) ?_; rotate_left
          · obtain ⟨⟨hx0, hx1, hx2, hx3, hx4, hx5, hx6, hx7⟩, _⟩ := hx; go_simp; try with_reducible rfl
          refine tkH 11 ?_ hS (fun wx hx => ?_) ?_; rotate_left
          · obtain ⟨⟨hx0, hx1, hx2, hx3, hx4, hx5, hx6, hx7⟩, _⟩ := hx; go_simp; try with_reducible rfl
          refine tkH 12 ?_ hS (fun wx hx => ?_) ?_; rotate_left
          · obtain ⟨⟨hx0, hx1, hx2, hx3, hx4, hx5, hx6, hx7⟩, _⟩ := hx; go_simp; try with_reducible rfl
          refine noH 13 hS ?_
          refine noH 14 hS ?_
          refine noH 15 hS ?_
          refine tkH 16 ?_ hS (fun wx hx => ?_) ?_; rotate_left
          · obtain ⟨⟨hx0, hx1, hx2, hx3, hx4, hx5, hx6, hx7⟩, _⟩ := hx; go_simp; try with_reducible rfl
          refine wpAnyH_done (by kernel_rfl) ?_ _
          go_simp
          go_wp2
          go_ret
          exact ⟨by rw [E.out]; rfl, hS.2⟩
        · have E : Hid (scan (writeF S.k) (k + 1) = 0) := by
            have : writeF S.k k = 0 := by
              unfold writeF
              rw [NN.out.1, NN.out.2.1, NN.out.2.2.1, NN.out.2.2.2]
              rw [if_neg (fun h => h G0.out)]
              have g1 := G1.out; have g2 := G2.out; have g3 := G3.out; rw [if_neg (by omega)]
              rw [MM.out.1, MM.out.2]
              have ho := HO.out
              rw [if_neg (fun h => h.elim (fun q => q.2 (by omega)) (fun q => q hft.out))]
            exact scan_go HS.out this
          have dr : decide (0 ≤ r) = false := decide_eq_false hr
          clear HS NN FT G0 G1 G2 G3 MM HO hr hft
          go_wp2_with fail
          refine (L0.out _).mono ?_
          rintro e w1 ⟨rfl, rfl⟩
          go_wp2_with fail
          refine (isTime_is _ true L1.out _).mono ?_
          rintro e w1 ⟨rfl, rfl⟩
          go_wp2_with fail
          refine (isTime_is _ true L2.out _).mono ?_
          rintro e w1 ⟨rfl, rfl⟩
          go_wp2_with fail
          refine (isLockKind_is _ true L3.out _).mono ?_
          rintro e w1 ⟨rfl, rfl⟩
          go_wp2_with fail
          refine wp_region_held_drew (S := PrevWrite w g o k wr.heap.size m0 m1 m2 m3 n0 n1 n2 n3) (by kernel_rfl) h0 (fun hS => ?_)
          clear h0
          refine tkH 0 ?_ hS (fun wx hx => ?_) ?_; rotate_left
          · obtain ⟨⟨hx0, hx1, hx2, hx3, hx4, hx5, hx6, hx7⟩, _⟩ := hx; go_simp; try with_reducible rfl
          refine tkH 1 ?_ hS (fun wx hx => ?_) ?_; rotate_left
          · obtain ⟨⟨hx0, hx1, hx2, hx3, hx4, hx5, hx6, hx7⟩, _⟩ := hx; go_simp; try with_reducible rfl
          refine tkH 2 ?_ hS (fun wx hx => ?_) ?_; rotate_left
          · obtain ⟨⟨hx0, hx1, hx2, hx3, hx4, hx5, hx6, hx7⟩, _⟩ := hx; go_simp; try with_reducible rfl
          refine tkH 3 ?_ hS (fun wx hx => ?_) ?_; rotate_left
          · obtain ⟨⟨hx0, hx1, hx2, hx3, hx4, hx5, hx6, hx7⟩, _⟩ := hx; go_simp; try with_reducible rfl
          refine tkH 4 ?_ hS (fun wx hx => ?_) ?_; rotate_left
          · obtain ⟨⟨hx0, hx1, hx2, hx3, hx4, hx5, hx6, hx7⟩, _⟩ := hx; go_simp; try with_reducible rfl
          refine tkH 5 ?_ hS (fun wx hx => ?_) ?_; rotate_left
          · obtain ⟨⟨hx0, hx1, hx2, hx3, hx4, hx5, hx6, hx7⟩, _⟩ := hx; go_simp; try with_reducible rfl
          refine tkH 6 ?_ hS (fun wx hx => ?_) ?_; rotate_left
          · obtain ⟨⟨hx0, hx1, hx2, hx3, hx4, hx5, hx6, hx7⟩, _⟩ := hx; go_simp; try with_reducible rfl
          refine tkH 7 ?_ hS (fun wx hx => ?_) ?_; rotate_left
          · obtain ⟨⟨hx0, hx1, hx2, hx3, hx4, hx5, hx6, hx7⟩, _⟩ := hx; go_simp; try with_reducible rfl
          refine tkH 8 ?_ hS (fun wx hx => ?_) ?_; rotate_left
          · obtain ⟨⟨hx0, hx1, hx2, hx3, hx4, hx5, hx6, hx7⟩, _⟩ := hx; go_simp; try with_reducible rfl
          refine rdH 9 (fun K hK => ?_)
          go_simp
          go_wp2_with fail
          refine (compareWrites_is _ _ _ _ _ _ _ _ r HR.out _).mono ?_
          rintro e w1 ⟨rfl, q1⟩
          have hS' := hS.later q1
          clear q1
          go_wp2_with fail
          refine hK.out _ _ hS' (fun hS => ?_)
          clear hK K hS'
          refine tkH 10 ?_ hS (fun wx hx => ?_) ?_; rotate_left
          · obtain ⟨⟨hx0, hx1, hx2, hx3, hx4, hx5, hx6, hx7⟩, _⟩ := hx; go_simp; try with_reducible rfl
          refine tkH 11 ?_ hS (fun wx hx => ?_) ?_; rotate_left
          · obtain ⟨⟨hx0, hx1, hx2, hx3, hx4, hx5, hx6, hx7⟩, _⟩ := hx; go_simp; try with_reducible rfl
          refine tkH 12 ?_ hS (fun wx hx => ?_) ?_; rotate_left
          · obtain ⟨⟨hx0, hx1, hx2, hx3, hx4, hx5, hx6, hx7⟩, _⟩ := hx; go_simp; try with_reducible rfl
          refine tkH 13 ?_ hS (fun wx hx => ?_) ?_; rotate_left
          · obtain ⟨⟨hx0, hx1, hx2, hx3, hx4, hx5, hx6, hx7⟩, _⟩ := hx; go_simp; try with_reducible rfl
          refine rdH 14 (fun K hK => ?_)
          go_simp
          go_wp2_with fail
          refine (D.out _).mono ?_
          rintro e w1 ⟨rfl, q1⟩
          have hS' := hS.later q1
          clear q1
          go_wp2_with fail
          refine hK.out _ _ hS' (fun hS => ?_)
          clear hK K hS'
          refine tkH 15 ?_ hS (fun wx hx => ?_) ?_; rotate_left
          · obtain ⟨⟨hx0, hx1, hx2, hx3, hx4, hx5, hx6, hx7⟩, _⟩ := hx; go_simp; try with_reducible rfl
          refine tkH 16 ?_ hS (fun wx hx => ?_) ?_; rotate_left
          · obtain ⟨⟨hx0, hx1, hx2, hx3, hx4, hx5, hx6, hx7⟩, _⟩ := hx; go_simp; try with_reducible rfl
          refine wpAnyH_done (by kernel_rfl) ?_ _
          go_simp
          go_wp2
          go_roundw
          case rel => exact ⟨k + 1, by omega, by go_num, E, hS.2⟩
          case measure => simp [intOf]; omega
      · have D : Hid (∀ w, Calls Tryz.prog 157 #[.agg #[.int .i64 n0, .int .i64 n1, .int .i64 n2, .int .i64 n3]] w fun e w' => e = .returned (.bool false) ∧ Below w.heap.size w w') := fun w => commitFits_is n0 n1 n2 n3 false (decide_eq_false hf) w
        have hft : Hid (¬ fits S.k k) := fun h => hf (FT.out.1 h)
        clear hf
        rcases Nat.eq_zero_or_pos k with hk0 | hk0
        · have E : Hid (scan (writeF S.k) S.nw = 1) := by
            have : writeF S.k k = 1 := by
              unfold writeF
              rw [NN.out.1, NN.out.2.1, NN.out.2.2.1, NN.out.2.2.2]
              rw [if_neg (fun h => h G0.out)]
              have g1 := G1.out; have g2 := G2.out; have g3 := G3.out; rw [if_neg (by omega)]
              rw [if_pos (Or.inr hft.out)]
            exact (scan_stop HS.out (by rw [this]; decide) hlt).trans this
          have dk : decide (0 < k) = false := decide_eq_false (by omega)
          have h0 : FirstWrite w wr.heap.size n0 n1 n2 n3 (wr.alloc (.cells #[.int .i64 n0, .int .i64 n1, .int .i64 n2, .int .i64 n3] 181)).drew := ⟨⟨World.cell?_alloc_mark wr _ _ _ 0, World.cell?_alloc_mark wr _ _ _ 1, World.cell?_alloc_mark wr _ _ _ 2, World.cell?_alloc_mark wr _ _ _ 3⟩, (hbw.alloc hbw.size _).drew⟩
          clear HS NN FT G0 G1 G2 G3 hk0 hft
          go_wp2_with fail
          refine (L0.out _).mono ?_
          rintro e w1 ⟨rfl, rfl⟩
          go_wp2_with fail
          refine (isTime_is _ true L1.out _).mono ?_
          rintro e w1 ⟨rfl, rfl⟩
          go_wp2_with fail
          refine (isTime_is _ true L2.out _).mono ?_
          rintro e w1 ⟨rfl, rfl⟩
          go_wp2_with fail
          refine (isLockKind_is _ true L3.out _).mono ?_
          rintro e w1 ⟨rfl, rfl⟩
          go_wp2_with fail
          refine wp_region_held_drew (S := FirstWrite w wr.heap.size n0 n1 n2 n3) (by kernel_rfl) h0 (fun hS => ?_)
          clear h0
          refine tkH 0 ?_ hS (fun wx hx => ?_) ?_; rotate_left
          · obtain ⟨⟨hx0, hx1, hx2, hx3⟩, _⟩ := hx; go_simp; try with_reducible rfl
          refine tkH 1 ?_ hS (fun wx hx => ?_) ?_; rotate_left
          · obtain ⟨⟨hx0, hx1, hx2, hx3⟩, _⟩ := hx; go_simp; try with_reducible rfl
          refine tkH 2 ?_ hS (fun wx hx => ?_) ?_; rotate_left
          · obtain ⟨⟨hx0, hx1, hx2, hx3⟩, _⟩ := hx; go_simp; try with_reducible rfl
          refine noH 3 hS ?_
          refine noH 4 hS ?_
          refine noH 5 hS ?_
          refine noH 6 hS ?_
          refine noH 7 hS ?_
          refine noH 8 hS ?_
          refine noH 9 hS ?_
          refine noH 10 hS ?_
          refine tkH 11 ?_ hS (fun wx hx => ?_) ?_; rotate_left
          · obtain ⟨⟨hx0, hx1, hx2, hx3⟩, _⟩ := hx; go_simp; try with_reducible rfl
          refine tkH 12 ?_ hS (fun wx hx => ?_) ?_; rotate_left
          · obtain ⟨⟨hx0, hx1, hx2, hx3⟩, _⟩ := hx; go_simp; try with_reducible rfl
          refine tkH 13 ?_ hS (fun wx hx => ?_) ?_; rotate_left
          · obtain ⟨⟨hx0, hx1, hx2, hx3⟩, _⟩ := hx; go_simp; try with_reducible rfl
          refine rdH 14 (fun K hK => ?_)
          go_simp
          go_wp2_with fail
          refine (D.out _).mono ?_
          rintro e w1 ⟨rfl, q1⟩
          have hS' := hS.later q1
          clear q1
          go_wp2_with fail
          refine hK.out _ _ hS' (fun hS => ?_)
          clear hK K hS'
          refine tkH 15 ?_ hS (fun wx hx => ?_) ?_; rotate_left
          · obtain ⟨⟨hx0, hx1, hx2, hx3⟩, _⟩ := hx; go_simp; try with_reducible rfl
          refine tkH 16 ?_ hS (fun wx hx => ?_) ?_; rotate_left
          · obtain ⟨⟨hx0, hx1, hx2, hx3⟩, _⟩ := hx; go_simp; try with_reducible rfl
          refine wpAnyH_done (by kernel_rfl) ?_ _
          go_simp
          go_wp2
          go_ret
          exact ⟨by rw [E.out]; rfl, hS.2⟩
        obtain ⟨g', o', he, _, _, y0, y1, y2, y3⟩ := (H.out.later hbw).at4 (k := k - 1) (by omega)
        simp only [Option.some.injEq, Addr.mk.injEq, and_true] at he
        obtain ⟨rfl, rfl⟩ := he
        obtain ⟨m0, M0⟩ : ∃ x, S.k ((k - 1) * 4) = x := ⟨_, rfl⟩
        rw [M0] at y0
        obtain ⟨m1, M1⟩ : ∃ x, S.k ((k - 1) * 4 + 1) = x := ⟨_, rfl⟩
        rw [M1] at y1
        obtain ⟨m2, M2⟩ : ∃ x, S.k ((k - 1) * 4 + 2) = x := ⟨_, rfl⟩
        rw [M2] at y2
        obtain ⟨m3, M3⟩ : ∃ x, S.k ((k - 1) * 4 + 3) = x := ⟨_, rfl⟩
        rw [M3] at y3
        have MM : Hid (S.k ((k - 1) * 4) = m0 ∧ S.k ((k - 1) * 4 + 1) = m1) := ⟨M0, M1⟩
        clear M0 M1 M2 M3
        have dk : decide (0 < k) = true := decide_eq_true hk0
        have hwr := wrap_pred k hk0 (by omega)
        have hkn : ((k - 1 : Nat) : Int) < (S.nw : Int) := by omega
        obtain ⟨r, HR⟩ : ∃ r, Hid (orOf (cmpOf m0 n0) (cmpOf m1 n1) = r) := ⟨_, rfl⟩
        have HO : Hid (r < 0 ↔ m0 < n0 ∨ m0 = n0 ∧ m1 < n1) := by unfold Hid; rw [← HR.out]; exact orOf_neg _ _ _ _
        have h0 : PrevWrite w g o k wr.heap.size m0 m1 m2 m3 n0 n1 n2 n3 (wr.alloc (.cells #[.int .i64 n0, .int .i64 n1, .int .i64 n2, .int .i64 n3] 181)).drew := ⟨⟨(World.cell?_alloc_lt _ _ _ hg).trans y0, (World.cell?_alloc_lt _ _ _ hg).trans y1, (World.cell?_alloc_lt _ _ _ hg).trans y2, (World.cell?_alloc_lt _ _ _ hg).trans y3, World.cell?_alloc_mark wr _ _ _ 0, World.cell?_alloc_mark wr _ _ _ 1, World.cell?_alloc_mark wr _ _ _ 2, World.cell?_alloc_mark wr _ _ _ 3⟩, (hbw.alloc hbw.size _).drew⟩
        by_cases hr : 0 ≤ r
        · have E : Hid (scan (writeF S.k) S.nw = 1) := by
            have : writeF S.k k = 1 := by
              unfold writeF
              rw [NN.out.1, NN.out.2.1, NN.out.2.2.1, NN.out.2.2.2]
              rw [if_neg (fun h => h G0.out)]
              have g1 := G1.out; have g2 := G2.out; have g3 := G3.out; rw [if_neg (by omega)]
              rw [MM.out.1, MM.out.2]
              have ho := HO.out
              rw [if_pos (Or.inl ⟨hk0, by omega⟩)]
            exact (scan_stop HS.out (by rw [this]; decide) hlt).trans this
          have dr : decide (0 ≤ r) = true := decide_eq_true hr
          clear HS NN FT G0 G1 G2 G3 MM HO hr hft
          go_wp2_with fail
          refine (L0.out _).mono ?_
          rintro e w1 ⟨rfl, rfl⟩
          go_wp2_with fail
          refine (isTime_is _ true L1.out _).mono ?_
          rintro e w1 ⟨rfl, rfl⟩
          go_wp2_with fail
          refine (isTime_is _ true L2.out _).mono ?_
          rintro e w1 ⟨rfl, rfl⟩
          go_wp2_with fail
          refine (isLockKind_is _ true L3.out _).mono ?_
          rintro e w1 ⟨rfl, rfl⟩
          go_wp2_with fail
          refine wp_region_held_drew (S := PrevWrite w g o k wr.heap.size m0 m1 m2 m3 n0 n1 n2 n3) (by kernel_rfl) h0 (fun hS => ?_)
          clear h0
          refine tkH 0 ?_ hS (fun wx hx => ?_) ?_; rotate_left
          · obtain ⟨⟨hx0, hx1, hx2, hx3, hx4, hx5, hx6, hx7⟩, _⟩ := hx; go_simp; try with_reducible rfl
          refine tkH 1 ?_ hS (fun wx hx => ?_) ?_; rotate_left
          · obtain ⟨⟨hx0, hx1, hx2, hx3, hx4, hx5, hx6, hx7⟩, _⟩ := hx; go_simp; try with_reducible rfl
          refine tkH 2 ?_ hS (fun wx hx => ?_) ?_; rotate_left
          · obtain ⟨⟨hx0, hx1, hx2, hx3, hx4, hx5, hx6, hx7⟩, _⟩ := hx; go_simp; try with_reducible rfl
          refine tkH 3 ?_ hS (fun wx hx => ?_) ?_; rotate_left
          · obtain ⟨⟨hx0, hx1, hx2, hx3, hx4, hx5, hx6, hx7⟩, _⟩ := hx; go_simp; try with_reducible rfl
          refine tkH 4 ?_ hS (fun wx hx => ?_) ?_; rotate_left
          · obtain ⟨⟨hx0, hx1, hx2, hx3, hx4, hx5, hx6, hx7⟩, _⟩ := hx; go_simp; try with_reducible rfl
          refine tkH 5 ?_ hS (fun wx hx => ?_) ?_; rotate_left
          · obtain ⟨⟨hx0, hx1, hx2, hx3, hx4, hx5, hx6, hx7⟩, _⟩ := hx; go_simp; try with_reducible rfl
          refine tkH 6 ?_ hS (fun wx hx => ?_) ?_; rotate_left
          · obtain ⟨⟨hx0, hx1, hx2, hx3, hx4, hx5, hx6, hx7⟩, _⟩ := hx; go_simp; try with_reducible rfl
          refine tkH 7 ?_ hS (fun wx hx => ?_) ?_; rotate_left
          · obtain ⟨⟨hx0, hx1, hx2, hx3, hx4, hx5, hx6, hx7⟩, _⟩ := hx; go_simp; try with_reducible rfl
          refine tkH 8 ?_ hS (fun wx hx => ?_) ?_; rotate_left
          · obtain ⟨⟨hx0, hx1, hx2, hx3, hx4, hx5, hx6, hx7⟩, _⟩ := hx; go_simp; try with_reducible rfl
          refine rdH 9 (fun K hK => ?_)
          go_simp
          go_wp2_with fail
          refine (compareWrites_is _ _ _ _ _ _ _ _ r HR.out _).mono ?_
          rintro e w1 ⟨rfl, q1⟩
          have hS' := hS.later q1
          clear q1
          go_wp2_with fail
          refine hK.out _ _ hS' (fun hS => ?_)
          clear hK K hS'
          refine tkH 10 ?_ hS (fun wx hx => ?_) ?_; rotate_left
          · obtain ⟨⟨hx0, hx1, hx2, hx3, hx4, hx5, hx6, hx7⟩, _⟩ := hx; go_simp; try with_reducible rfl
          refine tkH 11 ?_ hS (fun wx hx => ?_) ?_; rotate_left
          · obtain ⟨⟨hx0, hx1, hx2, hx3, hx4, hx5, hx6, hx7⟩, _⟩ := hx; go_simp; try with_reducible rfl
          refine tkH 12 ?_ hS (fun wx hx => ?_) ?_; rotate_left
          · obtain ⟨⟨hx0, hx1, hx2, hx3, hx4, hx5, hx6, hx7⟩, _⟩ := hx; go_simp; try with_reducible rfl
          refine noH 13 hS ?_
          refine noH 14 hS ?_
          refine noH 15 hS ?_
          refine tkH 16 ?_ hS (fun wx hx => ?_) ?_; rotate_left
          · obtain ⟨⟨hx0, hx1, hx2, hx3, hx4, hx5, hx6, hx7⟩, _⟩ := hx; go_simp; try with_reducible rfl
          refine wpAnyH_done (by kernel_rfl) ?_ _
          go_simp
          go_wp2
          go_ret
          exact ⟨by rw [E.out]; rfl, hS.2⟩
        · have E : Hid (scan (writeF S.k) S.nw = 1) := by
            have : writeF S.k k = 1 := by
              unfold writeF
              rw [NN.out.1, NN.out.2.1, NN.out.2.2.1, NN.out.2.2.2]
              rw [if_neg (fun h => h G0.out)]
              have g1 := G1.out; have g2 := G2.out; have g3 := G3.out; rw [if_neg (by omega)]
              rw [MM.out.1, MM.out.2]
              have ho := HO.out
              rw [if_pos (Or.inr hft.out)]
            exact (scan_stop HS.out (by rw [this]; decide) hlt).trans this
          have dr : decide (0 ≤ r) = false := decide_eq_false hr
          clear HS NN FT G0 G1 G2 G3 MM HO hr hft
          go_wp2_with fail
          refine (L0.out _).mono ?_
          rintro e w1 ⟨rfl, rfl⟩
          go_wp2_with fail
          refine (isTime_is _ true L1.out _).mono ?_
          rintro e w1 ⟨rfl, rfl⟩
          go_wp2_with fail
          refine (isTime_is _ true L2.out _).mono ?_
          rintro e w1 ⟨rfl, rfl⟩
          go_wp2_with fail
          refine (isLockKind_is _ true L3.out _).mono ?_
          rintro e w1 ⟨rfl, rfl⟩
          go_wp2_with fail
          refine wp_region_held_drew (S := PrevWrite w g o k wr.heap.size m0 m1 m2 m3 n0 n1 n2 n3) (by kernel_rfl) h0 (fun hS => ?_)
          clear h0
          refine tkH 0 ?_ hS (fun wx hx => ?_) ?_; rotate_left
          · obtain ⟨⟨hx0, hx1, hx2, hx3, hx4, hx5, hx6, hx7⟩, _⟩ := hx; go_simp; try with_reducible rfl
          refine tkH 1 ?_ hS (fun wx hx => ?_) ?_; rotate_left
          · obtain ⟨⟨hx0, hx1, hx2, hx3, hx4, hx5, hx6, hx7⟩, _⟩ := hx; go_simp; try with_reducible rfl
          refine tkH 2 ?_ hS (fun wx hx => ?_) ?_; rotate_left
          · obtain ⟨⟨hx0, hx1, hx2, hx3, hx4, hx5, hx6, hx7⟩, _⟩ := hx; go_simp; try with_reducible rfl
          refine tkH 3 ?_ hS (fun wx hx => ?_) ?_; rotate_left
          · obtain ⟨⟨hx0, hx1, hx2, hx3, hx4, hx5, hx6, hx7⟩, _⟩ := hx; go_simp; try with_reducible rfl
          refine tkH 4 ?_ hS (fun wx hx => ?_) ?_; rotate_left
          · obtain ⟨⟨hx0, hx1, hx2, hx3, hx4, hx5, hx6, hx7⟩, _⟩ := hx; go_simp; try with_reducible rfl
          refine tkH 5 ?_ hS (fun wx hx => ?_) ?_; rotate_left
          · obtain ⟨⟨hx0, hx1, hx2, hx3, hx4, hx5, hx6, hx7⟩, _⟩ := hx; go_simp; try with_reducible rfl
          refine tkH 6 ?_ hS (fun wx hx => ?_) ?_; rotate_left
          · obtain ⟨⟨hx0, hx1, hx2, hx3, hx4, hx5, hx6, hx7⟩, _⟩ := hx; go_simp; try with_reducible rfl
          refine tkH 7 ?_ hS (fun wx hx => ?_) ?_; rotate_left
          · obtain ⟨⟨hx0, hx1, hx2, hx3, hx4, hx5, hx6, hx7⟩, _⟩ := hx; go_simp; try with_reducible rfl
          refine tkH 8 ?_ hS (fun wx hx => ?_) ?_; rotate_left
          · obtain ⟨⟨hx0, hx1, hx2, hx3, hx4, hx5, hx6, hx7⟩, _⟩ := hx; go_simp; try with_reducible rfl
          refine rdH 9 (fun K hK => ?_)
          go_simp
          go_wp2_with fail
          refine (compareWrites_is _ _ _ _ _ _ _ _ r HR.out _).mono ?_
          rintro e w1 ⟨rfl, q1⟩
          have hS' := hS.later q1
          clear q1
          go_wp2_with fail
          refine hK.out _ _ hS' (fun hS => ?_)
          clear hK K hS'
          refine tkH 10 ?_ hS (fun wx hx => ?_) ?_; rotate_left
          · obtain ⟨⟨hx0, hx1, hx2, hx3, hx4, hx5, hx6, hx7⟩, _⟩ := hx; go_simp; try with_reducible rfl
          refine tkH 11 ?_ hS (fun wx hx => ?_) ?_; rotate_left
          · obtain ⟨⟨hx0, hx1, hx2, hx3, hx4, hx5, hx6, hx7⟩, _⟩ := hx; go_simp; try with_reducible rfl
          refine tkH 12 ?_ hS (fun wx hx => ?_) ?_; rotate_left
          · obtain ⟨⟨hx0, hx1, hx2, hx3, hx4, hx5, hx6, hx7⟩, _⟩ := hx; go_simp; try with_reducible rfl
          refine tkH 13 ?_ hS (fun wx hx => ?_) ?_; rotate_left
          · obtain ⟨⟨hx0, hx1, hx2, hx3, hx4, hx5, hx6, hx7⟩, _⟩ := hx; go_simp; try with_reducible rfl
          refine rdH 14 (fun K hK => ?_)
          go_simp
          go_wp2_with fail
          refine (D.out _).mono ?_
          rintro e w1 ⟨rfl, q1⟩
          have hS' := hS.later q1
          clear q1
          go_wp2_with fail
          refine hK.out _ _ hS' (fun hS => ?_)
          clear hK K hS'
          refine tkH 15 ?_ hS (fun wx hx => ?_) ?_; rotate_left
          · obtain ⟨⟨hx0, hx1, hx2, hx3, hx4, hx5, hx6, hx7⟩, _⟩ := hx; go_simp; try with_reducible rfl
          refine tkH 16 ?_ hS (fun wx hx => ?_) ?_; rotate_left
          · obtain ⟨⟨hx0, hx1, hx2, hx3, hx4, hx5, hx6, hx7⟩, _⟩ := hx; go_simp; try with_reducible rfl
          refine wpAnyH_done (by kernel_rfl) ?_ _
          go_simp
          go_wp2
          go_ret
          exact ⟨by rw [E.out]; rfl, hS.2⟩
    · have L3 : Hid (decide (1 ≤ n3 ∧ n3 ≤ 3) = false) := decide_eq_false h3
      by_cases h4 : n3 = 4
      case neg =>
        have E : Hid (scan (writeF S.k) S.nw = 3) := by
          have : writeF S.k k = 3 := by
            unfold writeF
            rw [NN.out.1, NN.out.2.1, NN.out.2.2.1, NN.out.2.2.2]
            rw [if_neg (fun h => h G0.out)]
            rw [if_pos (by omega)]
          exact (scan_stop HS.out (by rw [this]; decide) hlt).trans this
        have hn4 : (n3 == 4) = false := beq_eq_false_iff_ne.2 h4
        clear h3 h4 HS NN FT G0 G1 G2
        go_wp2_with fail
        refine (L0.out _).mono ?_
        rintro e w1 ⟨rfl, rfl⟩
        go_wp2_with fail
        refine (isTime_is _ true L1.out _).mono ?_
        rintro e w1 ⟨rfl, rfl⟩
        go_wp2_with fail
        refine (isTime_is _ true L2.out _).mono ?_
        rintro e w1 ⟨rfl, rfl⟩
        go_wp2_with fail
        refine (isLockKind_is _ false L3.out _).mono ?_
        rintro e w1 ⟨rfl, rfl⟩
        go_wp2
        go_ret
        exact ⟨by rw [E.out]; rfl, by first | exact hbw.alloc hbw.size _ | exact below_dn (hbw.alloc hbw.size _) _ | exact below_dn (below_dn (hbw.alloc hbw.size _) _) _⟩
      subst h4
      have G3 : Hid ((4 : Int) = 4) := rfl
      clear h3
      by_cases hf : ((4 : Int) = 4 → n1 = n2) ∧ ((4 : Int) ≠ 4 → n2 < n1)
      · have D : Hid (∀ w, Calls Tryz.prog 157 #[.agg #[.int .i64 n0, .int .i64 n1, .int .i64 n2, .int .i64 4]] w fun e w' => e = .returned (.bool true) ∧ Below w.heap.size w w') := fun w => commitFits_is n0 n1 n2 4 true (decide_eq_true hf) w
        have hft : Hid (fits S.k k) := FT.out.2 hf
        clear hf
        rcases Nat.eq_zero_or_pos k with hk0 | hk0
        · have E : Hid (scan (writeF S.k) (k + 1) = 0) := by
            have : writeF S.k k = 0 := by
              unfold writeF
              rw [NN.out.1, NN.out.2.1, NN.out.2.2.1, NN.out.2.2.2]
              rw [if_neg (fun h => h G0.out)]
              have g1 := G1.out; have g2 := G2.out; have g3 := G3.out; rw [if_neg (by omega)]
              rw [if_neg (fun h => h.elim (fun q => by omega) (fun q => q hft.out))]
            exact scan_go HS.out this
          have dk : decide (0 < k) = false := decide_eq_false (by omega)
          have h0 : FirstWrite w wr.heap.size n0 n1 n2 4 (wr.alloc (.cells #[.int .i64 n0, .int .i64 n1, .int .i64 n2, .int .i64 4] 181)).drew := ⟨⟨World.cell?_alloc_mark wr _ _ _ 0, World.cell?_alloc_mark wr _ _ _ 1, World.cell?_alloc_mark wr _ _ _ 2, World.cell?_alloc_mark wr _ _ _ 3⟩, (hbw.alloc hbw.size _).drew⟩
          clear HS NN FT G0 G1 G2 G3 hk0 hft
          go_wp2_with fail
          refine (L0.out _).mono ?_
          rintro e w1 ⟨rfl, rfl⟩
          go_wp2_with fail
          refine (isTime_is _ true L1.out _).mono ?_
          rintro e w1 ⟨rfl, rfl⟩
          go_wp2_with fail
          refine (isTime_is _ true L2.out _).mono ?_
          rintro e w1 ⟨rfl, rfl⟩
          go_wp2_with fail
          refine (isLockKind_is _ false L3.out _).mono ?_
          rintro e w1 ⟨rfl, rfl⟩
          go_wp2_with fail
          refine wp_region_held_drew (S := FirstWrite w wr.heap.size n0 n1 n2 4) (by kernel_rfl) h0 (fun hS => ?_)
          clear h0
          refine tkH 0 ?_ hS (fun wx hx => ?_) ?_; rotate_left
          · obtain ⟨⟨hx0, hx1, hx2, hx3⟩, _⟩ := hx; go_simp; try with_reducible rfl
          refine tkH 1 ?_ hS (fun wx hx => ?_) ?_; rotate_left
          · obtain ⟨⟨hx0, hx1, hx2, hx3⟩, _⟩ := hx; go_simp; try with_reducible rfl
          refine tkH 2 ?_ hS (fun wx hx => ?_) ?_; rotate_left
          · obtain ⟨⟨hx0, hx1, hx2, hx3⟩, _⟩ := hx; go_simp; try with_reducible rfl
          refine noH 3 hS ?_
          refine noH 4 hS ?_
          refine noH 5 hS ?_
          refine noH 6 hS ?_
          refine noH 7 hS ?_
          refine noH 8 hS ?_
          refine noH 9 hS ?_
          refine noH 10 hS ?_
          refine tkH 11 ?_ hS (fun wx hx => ?_) ?_; rotate_left
          · obtain ⟨⟨hx0, hx1, hx2, hx3⟩, _⟩ := hx; go_simp; try with_reducible rfl
          refine tkH 12 ?_ hS (fun wx hx => ?_) ?_; rotate_left
          · obtain ⟨⟨hx0, hx1, hx2, hx3⟩, _⟩ := hx; go_simp; try with_reducible rfl
          refine tkH 13 ?_ hS (fun wx hx => ?_) ?_; rotate_left
          · obtain ⟨⟨hx0, hx1, hx2, hx3⟩, _⟩ := hx; go_simp; try with_reducible rfl
          refine rdH 14 (fun K hK => ?_)
          go_simp
          go_wp2_with fail
          refine (D.out _).mono ?_
          rintro e w1 ⟨rfl, q1⟩
          have hS' := hS.later q1
          clear q1
          go_wp2_with fail
          refine hK.out _ _ hS' (fun hS => ?_)
          clear hK K hS'
          refine tkH 15 ?_ hS (fun wx hx => ?_) ?_; rotate_left
          · obtain ⟨⟨hx0, hx1, hx2, hx3⟩, _⟩ := hx; go_simp; try with_reducible rfl
          refine tkH 16 ?_ hS (fun wx hx => ?_) ?_; rotate_left
          · obtain ⟨⟨hx0, hx1, hx2, hx3⟩, _⟩ := hx; go_simp; try with_reducible rfl
          refine wpAnyH_done (by kernel_rfl) ?_ _
          go_simp
          go_wp2
          go_roundw
          case rel => exact ⟨k + 1, by omega, by go_num, E, hS.2⟩
          case measure => simp [intOf]; omega
        obtain ⟨g', o', he, _, _, y0, y1, y2, y3⟩ := (H.out.later hbw).at4 (k := k - 1) (by omega)
        simp only [Option.some.injEq, Addr.mk.injEq, and_true] at he
        obtain ⟨rfl, rfl⟩ := he
        obtain ⟨m0, M0⟩ : ∃ x, S.k ((k - 1) * 4) = x := ⟨_, rfl⟩
        rw [M0] at y0
        obtain ⟨m1, M1⟩ : ∃ x, S.k ((k - 1) * 4 + 1) = x := ⟨_, rfl⟩
        rw [M1] at y1
        obtain ⟨m2, M2⟩ : ∃ x, S.k ((k - 1) * 4 + 2) = x := ⟨_, rfl⟩
        rw [M2] at y2
        obtain ⟨m3, M3⟩ : ∃ x, S.k ((k - 1) * 4 + 3) = x := ⟨_, rfl⟩
        rw [M3] at y3
        have MM : Hid (S.k ((k - 1) * 4) = m0 ∧ S.k ((k - 1) * 4 + 1) = m1) := ⟨M0, M1⟩
        clear M0 M1 M2 M3
        have dk : decide (0 < k) = true := decide_eq_true hk0
        have hwr := wrap_pred k hk0 (by omega)
        have hkn : ((k - 1 : Nat) : Int) < (S.nw : Int) := by omega
        obtain ⟨r, HR⟩ : ∃ r, Hid (orOf (cmpOf m0 n0) (cmpOf m1 n1) = r) := ⟨_, rfl⟩
        have HO : Hid (r < 0 ↔ m0 < n0 ∨ m0 = n0 ∧ m1 < n1) := by unfold Hid; rw [← HR.out]; exact orOf_neg _ _ _ _
        have h0 : PrevWrite w g o k wr.heap.size m0 m1 m2 m3 n0 n1 n2 4 (wr.alloc (.cells #[.int .i64 n0, .int .i64 n1, .int .i64 n2, .int .i64 4] 181)).drew := ⟨⟨(World.cell?_alloc_lt _ _ _ hg).trans y0, (World.cell?_alloc_lt _ _ _ hg).trans y1, (World.cell?_alloc_lt _ _ _ hg).trans y2, (World.cell?_alloc_lt _ _ _ hg).trans y3, World.cell?_alloc_mark wr _ _ _ 0, World.cell?_alloc_mark wr _ _ _ 1, World.cell?_alloc_mark wr _ _ _ 2, World.cell?_alloc_mark wr _ _ _ 3⟩, (hbw.alloc hbw.size _).drew⟩
        by_cases hr : 0 ≤ r
        · have E : Hid (scan (writeF S.k) S.nw = 1) := by
            have : writeF S.k k = 1 := by
              unfold writeF
              rw [NN.out.1, NN.out.2.1, NN.out.2.2.1, NN.out.2.2.2]
              rw [if_neg (fun h => h G0.out)]
              have g1 := G1.out; have g2 := G2.out; have g3 := G3.out; rw [if_neg (by omega)]
              rw [MM.out.1, MM.out.2]
              have ho := HO.out
              rw [if_pos (Or.inl ⟨hk0, by omega⟩)]
            exact (scan_stop HS.out (by rw [this]; decide) hlt).trans this
          have dr : decide (0 ≤ r) = true := decide_eq_true hr
          clear HS NN FT G0 G1 G2 G3 MM HO hr hft
          go_wp2_with fail
          refine (L0.out _).mono ?_
          rintro e w1 ⟨rfl, rfl⟩
          go_wp2_with fail
          refine (isTime_is _ true L1.out _).mono ?_
          rintro e w1 ⟨rfl, rfl⟩
          go_wp2_with fail
          refine (isTime_is _ true L2.out _).mono ?_
          rintro e w1 ⟨rfl, rfl⟩
          go_wp2_with fail
          refine (isLockKind_is _ false L3.out _).mono ?_
          rintro e w1 ⟨rfl, rfl⟩
          go_wp2_with fail
          refine wp_region_held_drew (S := PrevWrite w g o k wr.heap.size m0 m1 m2 m3 n0 n1 n2 4) (by kernel_rfl) h0 (fun hS => ?_)
          clear h0
          refine tkH 0 ?_ hS (fun wx hx => ?_) ?_; rotate_left
          · obtain ⟨⟨hx0, hx1, hx2, hx3, hx4, hx5, hx6, hx7⟩, _⟩ := hx; go_simp; try with_reducible rfl
          refine tkH 1 ?_ hS (fun wx hx => ?_) ?_; rotate_left
          · obtain ⟨⟨hx0, hx1, hx2, hx3, hx4, hx5, hx6, hx7⟩, _⟩ := hx; go_simp; try with_reducible rfl
          refine tkH 2 ?_ hS (fun wx hx => ?_) ?_; rotate_left
          · obtain ⟨⟨hx0, hx1, hx2, hx3, hx4, hx5, hx6, hx7⟩, _⟩ := hx; go_simp; try with_reducible rfl
          refine tkH 3 ?_ hS (fun wx hx => ?_) ?_; rotate_left
          · obtain ⟨⟨hx0, hx1, hx2, hx3, hx4, hx5, hx6, hx7⟩, _⟩ := hx; go_simp; try with_reducible rfl
          refine tkH 4 ?_ hS (fun wx hx => ?_) ?_; rotate_left
          · obtain ⟨⟨hx0, hx1, hx2, hx3, hx4, hx5, hx6, hx7⟩, _⟩ := hx; go_simp; try with_reducible rfl
          refine tkH 5 ?_ hS (fun wx hx => ?_) ?_; rotate_left
          · obtain ⟨⟨hx0, hx1, hx2, hx3, hx4, hx5, hx6, hx7⟩, _⟩ := hx; go_simp; try with_reducible rfl
          refine tkH 6 ?_ hS (fun wx hx => ?_) ?_; rotate_left
          · obtain ⟨⟨hx0, hx1, hx2, hx3, hx4, hx5, hx6, hx7⟩, _⟩ := hx; go_simp; try with_reducible rfl
          refine tkH 7 ?_ hS (fun wx hx => ?_) ?_; rotate_left
          · obtain ⟨⟨hx0, hx1, hx2, hx3, hx4, hx5, hx6, hx7⟩, _⟩ := hx; go_simp; try with_reducible rfl
          refine tkH 8 ?_ hS (fun wx hx => ?_) ?_; rotate_left
          · obtain ⟨⟨hx0, hx1, hx2, hx3, hx4, hx5, hx6, hx7⟩, _⟩ := hx; go_simp; try with_reducible rfl
          refine rdH 9 (fun K hK => ?_)
          go_simp
          go_wp2_with fail
          refine (compareWrites_is _ _ _ _ _ _ _ _ r HR.out _).mono ?_
          rintro e w1 ⟨rfl, q1⟩
          have hS' := hS.later q1
          clear q1
          go_wp2_with fail
          refine hK.out _ _ hS' (fun hS => ?_)
          clear hK K hS'
          refine tkH 10 ?_ hS (fun wx hx => ?_) ?_; rotate_left
          · obtain ⟨⟨hx0, hx1, hx2, hx3, hx4, hx5, hx6, hx7⟩, _⟩ := hx; go_simp; try with_reducible rfl
          refine tkH 11 ?_ hS (fun wx hx => ?_) ?_; rotate_left
          · obtain ⟨⟨hx0, hx1, hx2, hx3, hx4, hx5, hx6, hx7⟩, _⟩ := hx; go_simp; try with_reducible rfl
          refine tkH 12 ?_ hS (fun wx hx => ?_) ?_; rotate_left
          · obtain ⟨⟨hx0, hx1, hx2, hx3, hx4, hx5, hx6, hx7⟩, _⟩ := hx; go_simp; try with_reducible rfl
          refine noH 13 hS ?_
          refine noH 14 hS ?_
          refine noH 15 hS ?_
          refine tkH 16 ?_ hS (fun wx hx => ?_) ?_; rotate_left
          · obtain ⟨⟨hx0, hx1, hx2, hx3, hx4, hx5, hx6, hx7⟩, _⟩ := hx; go_simp; try with_reducible rfl
          refine wpAnyH_done (by kernel_rfl) ?_ _
          go_simp
          go_wp2
          go_ret
          exact ⟨by rw [E.out]; rfl, hS.2⟩
        · have E : Hid (scan (writeF S.k) (k + 1) = 0) := by
            have : writeF S.k k = 0 := by
              unfold writeF
              rw [NN.out.1, NN.out.2.1, NN.out.2.2.1, NN.out.2.2.2]
              rw [if_neg (fun h => h G0.out)]
              have g1 := G1.out; have g2 := G2.out; have g3 := G3.out; rw [if_neg (by omega)]
              rw [MM.out.1, MM.out.2]
              have ho := HO.out
              rw [if_neg (fun h => h.elim (fun q => q.2 (by omega)) (fun q => q hft.out))]
            exact scan_go HS.out this
          have dr : decide (0 ≤ r) = false := decide_eq_false hr
          clear HS NN FT G0 G1 G2 G3 MM HO hr hft
          go_wp2_with fail
          refine (L0.out _).mono ?_
          rintro e w1 ⟨rfl, rfl⟩
          go_wp2_with fail
          refine (isTime_is _ true L1.out _).mono ?_
          rintro e w1 ⟨rfl, rfl⟩
          go_wp2_with fail
          refine (isTime_is _ true L2.out _).mono ?_
          rintro e w1 ⟨rfl, rfl⟩
          go_wp2_with fail
          refine (isLockKind_is _ false L3.out _).mono ?_
          rintro e w1 ⟨rfl, rfl⟩
          go_wp2_with fail
          refine wp_region_held_drew (S := PrevWrite w g o k wr.heap.size m0 m1 m2 m3 n0 n1 n2 4) (by kernel_rfl) h0 (fun hS => ?_)
          clear h0
          refine tkH 0 ?_ hS (fun wx hx => ?_) ?_; rotate_left
          · obtain ⟨⟨hx0, hx1, hx2, hx3, hx4, hx5, hx6, hx7⟩, _⟩ := hx; go_simp; try with_reducible rfl
          refine tkH 1 ?_ hS (fun wx hx => ?_) ?_; rotate_left
          · obtain ⟨⟨hx0, hx1, hx2, hx3, hx4, hx5, hx6, hx7⟩, _⟩ := hx; go_simp; try with_reducible rfl
          refine tkH 2 ?_ hS (fun wx hx => ?_) ?_; rotate_left
          · obtain ⟨⟨hx0, hx1, hx2, hx3, hx4, hx5, hx6, hx7⟩, _⟩ := hx; go_simp; try with_reducible rfl
          refine tkH 3 ?_ hS (fun wx hx => ?_) ?_; rotate_left
          · obtain ⟨⟨hx0, hx1, hx2, hx3, hx4, hx5, hx6, hx7⟩, _⟩ := hx; go_simp; try with_reducible rfl
          refine tkH 4 ?_ hS (fun wx hx => ?_) ?_; rotate_left
          · obtain ⟨⟨hx0, hx1, hx2, hx3, hx4, hx5, hx6, hx7⟩, _⟩ := hx; go_simp; try with_reducible rfl
          refine tkH 5 ?_ hS (fun wx hx => ?_) ?_; rotate_left
          · obtain ⟨⟨hx0, hx1, hx2, hx3, hx4, hx5, hx6, hx7⟩, _⟩ := hx; go_simp; try with_reducible rfl
          refine tkH 6 ?_ hS (fun wx hx => ?_) ?_; rotate_left
          · obtain ⟨⟨hx0, hx1, hx2, hx3, hx4, hx5, hx6, hx7⟩, _⟩ := hx; go_simp; try with_reducible rfl
          refine tkH 7 ?_ hS (fun wx hx => ?_) ?_; rotate_left
          · obtain ⟨⟨hx0, hx1, hx2, hx3, hx4, hx5, hx6, hx7⟩, _⟩ := hx; go_simp; try with_reducible rfl
          refine tkH 8 ?_ hS (fun wx hx => ?_) ?_; rotate_left
          · obtain ⟨⟨hx0, hx1, hx2, hx3, hx4, hx5, hx6, hx7⟩, _⟩ := hx; go_simp; try with_reducible rfl
          refine rdH 9 (fun K hK => ?_)
          go_simp
          go_wp2_with fail
          refine (compareWrites_is _ _ _ _ _ _ _ _ r HR.out _).mono ?_
          rintro e w1 ⟨rfl, q1⟩
          have hS' := hS.later q1
          clear q1
          go_wp2_with fail
          refine hK.out _ _ hS' (fun hS => ?_)
          clear hK K hS'
          refine tkH 10 ?_ hS (fun wx hx => ?_) ?_; rotate_left
          · obtain ⟨⟨hx0, hx1, hx2, hx3, hx4, hx5, hx6, hx7⟩, _⟩ := hx; go_simp; try with_reducible rfl
          refine tkH 11 ?_ hS (fun wx hx => ?_) ?_; rotate_left
          · obtain ⟨⟨hx0, hx1, hx2, hx3, hx4, hx5, hx6, hx7⟩, _⟩ := hx; go_simp; try with_reducible rfl
          refine tkH 12 ?_ hS (fun wx hx => ?_) ?_; rotate_left
          · obtain ⟨⟨hx0, hx1, hx2, hx3, hx4, hx5, hx6, hx7⟩, _⟩ := hx; go_simp; try with_reducible rfl
          refine tkH 13 ?_ hS (fun wx hx => ?_) ?_; rotate_left
          · obtain ⟨⟨hx0, hx1, hx2, hx3, hx4, hx5, hx6, hx7⟩, _⟩ := hx; go_simp; try with_reducible rfl
          refine rdH 14 (fun K hK => ?_)
          go_simp
          go_wp2_with fail
          refine (D.out _).mono ?_
          rintro e w1 ⟨rfl, q1⟩
          have hS' := hS.later q1
          clear q1
          go_wp2_with fail
          refine hK.out _ _ hS' (fun hS => ?_)
          clear hK K hS'
          refine tkH 15 ?_ hS (fun wx hx => ?_) ?_; rotate_left
          · obtain ⟨⟨hx0, hx1, hx2, hx3, hx4, hx5, hx6, hx7⟩, _⟩ := hx; go_simp; try with_reducible rfl
          refine tkH 16 ?_ hS (fun wx hx => ?_) ?_; rotate_left
          · obtain ⟨⟨hx0, hx1, hx2, hx3, hx4, hx5, hx6, hx7⟩, _⟩ := hx; go_simp; try with_reducible rfl
          refine wpAnyH_done (by kernel_rfl) ?_ _
          go_simp
          go_wp2
          go_roundw
          case rel => exact ⟨k + 1, by omega, by go_num, E, hS.2⟩
          case measure => simp [intOf]; omega
      · have D : Hid (∀ w, Calls Tryz.prog 157 #[.agg #[.int .i64 n0, .int .i64 n1, .int .i64 n2, .int .i64 4]] w fun e w' => e = .returned (.bool false) ∧ Below w.heap.size w w') := fun w => commitFits_is n0 n1 n2 4 false (decide_eq_false hf) w
        have hft : Hid (¬ fits S.k k) := fun h => hf (FT.out.1 h)
        clear hf
        rcases Nat.eq_zero_or_pos k with hk0 | hk0
        · have E : Hid (scan (writeF S.k) S.nw = 1) := by
            have : writeF S.k k = 1 := by
              unfold writeF
              rw [NN.out.1, NN.out.2.1, NN.out.2.2.1, NN.out.2.2.2]
              rw [if_neg (fun h => h G0.out)]
              have g1 := G1.out; have g2 := G2.out; have g3 := G3.out; rw [if_neg (by omega)]
              rw [if_pos (Or.inr hft.out)]
            exact (scan_stop HS.out (by rw [this]; decide) hlt).trans this
          have dk : decide (0 < k) = false := decide_eq_false (by omega)
          have h0 : FirstWrite w wr.heap.size n0 n1 n2 4 (wr.alloc (.cells #[.int .i64 n0, .int .i64 n1, .int .i64 n2, .int .i64 4] 181)).drew := ⟨⟨World.cell?_alloc_mark wr _ _ _ 0, World.cell?_alloc_mark wr _ _ _ 1, World.cell?_alloc_mark wr _ _ _ 2, World.cell?_alloc_mark wr _ _ _ 3⟩, (hbw.alloc hbw.size _).drew⟩
          clear HS NN FT G0 G1 G2 G3 hk0 hft
          go_wp2_with fail
          refine (L0.out _).mono ?_
          rintro e w1 ⟨rfl, rfl⟩
          go_wp2_with fail
          refine (isTime_is _ true L1.out _).mono ?_
          rintro e w1 ⟨rfl, rfl⟩
          go_wp2_with fail
          refine (isTime_is _ true L2.out _).mono ?_
          rintro e w1 ⟨rfl, rfl⟩
          go_wp2_with fail
          refine (isLockKind_is _ false L3.out _).mono ?_
          rintro e w1 ⟨rfl, rfl⟩
          go_wp2_with fail
          refine wp_region_held_drew (S := FirstWrite w wr.heap.size n0 n1 n2 4) (by kernel_rfl) h0 (fun hS => ?_)
          clear h0
          refine tkH 0 ?_ hS (fun wx hx => ?_) ?_; rotate_left
          · obtain ⟨⟨hx0, hx1, hx2, hx3⟩, _⟩ := hx; go_simp; try with_reducible rfl
          refine tkH 1 ?_ hS (fun wx hx => ?_) ?_; rotate_left
          · obtain ⟨⟨hx0, hx1, hx2, hx3⟩, _⟩ := hx; go_simp; try with_reducible rfl
          refine tkH 2 ?_ hS (fun wx hx => ?_) ?_; rotate_left
          · obtain ⟨⟨hx0, hx1, hx2, hx3⟩, _⟩ := hx; go_simp; try with_reducible rfl
          refine noH 3 hS ?_
          refine noH 4 hS ?_
          refine noH 5 hS ?_
          refine noH 6 hS ?_
          refine noH 7 hS ?_
          refine noH 8 hS ?_
          refine noH 9 hS ?_
          refine noH 10 hS ?_
          refine tkH 11 ?_ hS (fun wx hx => ?_) ?_; rotate_left
          · obtain ⟨⟨hx0, hx1, hx2, hx3⟩, _⟩ := hx; go_simp; try with_reducible rfl
          refine tkH 12 ?_ hS (fun wx hx => ?_) ?_; rotate_left
          · obtain ⟨⟨hx0, hx1, hx2, hx3⟩, _⟩ := hx; go_simp; try with_reducible rfl
          refine tkH 13 ?_ hS (fun wx hx => ?_) ?_; rotate_left
          · obtain ⟨⟨hx0, hx1, hx2, hx3⟩, _⟩ := hx; go_simp; try with_reducible rfl
          refine rdH 14 (fun K hK => ?_)
          go_simp
          go_wp2_with fail
          refine (D.out _).mono ?_
          rintro e w1 ⟨rfl, q1⟩
          have hS' := hS.later q1
          clear q1
          go_wp2_with fail
          refine hK.out _ _ hS' (fun hS => ?_)
          clear hK K hS'
          refine tkH 15 ?_ hS (fun wx hx => ?_) ?_; rotate_left
          · obtain ⟨⟨hx0, hx1, hx2, hx3⟩, _⟩ := hx; go_simp; try with_reducible rfl
          refine tkH 16 ?_ hS (fun wx hx => ?_) ?_; rotate_left
          · obtain ⟨⟨hx0, hx1, hx2, hx3⟩, _⟩ := hx; go_simp; try with_reducible rfl
          refine wpAnyH_done (by kernel_rfl) ?_ _
          go_simp
          go_wp2
          go_ret
          exact ⟨by rw [E.out]; rfl, hS.2⟩
        obtain ⟨g', o', he, _, _, y0, y1, y2, y3⟩ := (H.out.later hbw).at4 (k := k - 1) (by omega)
        simp only [Option.some.injEq, Addr.mk.injEq, and_true] at he
        obtain ⟨rfl, rfl⟩ := he
        obtain ⟨m0, M0⟩ : ∃ x, S.k ((k - 1) * 4) = x := ⟨_, rfl⟩
        rw [M0] at y0
        obtain ⟨m1, M1⟩ : ∃ x, S.k ((k - 1) * 4 + 1) = x := ⟨_, rfl⟩
        rw [M1] at y1
        obtain ⟨m2, M2⟩ : ∃ x, S.k ((k - 1) * 4 + 2) = x := ⟨_, rfl⟩
        rw [M2] at y2
        obtain ⟨m3, M3⟩ : ∃ x, S.k ((k - 1) * 4 + 3) = x := ⟨_, rfl⟩
        rw [M3] at y3
        have MM : Hid (S.k ((k - 1) * 4) = m0 ∧ S.k ((k - 1) * 4 + 1) = m1) := ⟨M0, M1⟩
        clear M0 M1 M2 M3
        have dk : decide (0 < k) = true := decide_eq_true hk0
        have hwr := wrap_pred k hk0 (by omega)
        have hkn : ((k - 1 : Nat) : Int) < (S.nw : Int) := by omega
        obtain ⟨r, HR⟩ : ∃ r, Hid (orOf (cmpOf m0 n0) (cmpOf m1 n1) = r) := ⟨_, rfl⟩
        have HO : Hid (r < 0 ↔ m0 < n0 ∨ m0 = n0 ∧ m1 < n1) := by unfold Hid; rw [← HR.out]; exact orOf_neg _ _ _ _
        have h0 : PrevWrite w g o k wr.heap.size m0 m1 m2 m3 n0 n1 n2 4 (wr.alloc (.cells #[.int .i64 n0, .int .i64 n1, .int .i64 n2, .int .i64 4] 181)).drew := ⟨⟨(World.cell?_alloc_lt _ _ _ hg).trans y0, (World.cell?_alloc_lt _ _ _ hg).trans y1, (World.cell?_alloc_lt _ _ _ hg).trans y2, (World.cell?_alloc_lt _ _ _ hg).trans y3, World.cell?_alloc_mark wr _ _ _ 0, World.cell?_alloc_mark wr _ _ _ 1, World.cell?_alloc_mark wr _ _ _ 2, World.cell?_alloc_mark wr _ _ _ 3⟩, (hbw.alloc hbw.size _).drew⟩
        by_cases hr : 0 ≤ r
        · have E : Hid (scan (writeF S.k) S.nw = 1) := by
            have : writeF S.k k = 1 := by
              unfold writeF
              rw [NN.out.1, NN.out.2.1, NN.out.2.2.1, NN.out.2.2.2]
              rw [if_neg (fun h => h G0.out)]
              have g1 := G1.out; have g2 := G2.out; have g3 := G3.out; rw [if_neg (by omega)]
              rw [MM.out.1, MM.out.2]
              have ho := HO.out
              rw [if_pos (Or.inl ⟨hk0, by omega⟩)]
            exact (scan_stop HS.out (by rw [this]; decide) hlt).trans this
          have dr : decide (0 ≤ r) = true := decide_eq_true hr
          clear HS NN FT G0 G1 G2 G3 MM HO hr hft
          go_wp2_with fail
          refine (L0.out _).mono ?_
          rintro e w1 ⟨rfl, rfl⟩
          go_wp2_with fail
          refine (isTime_is _ true L1.out _).mono ?_
          rintro e w1 ⟨rfl, rfl⟩
          go_wp2_with fail
          refine (isTime_is _ true L2.out _).mono ?_
          rintro e w1 ⟨rfl, rfl⟩
          go_wp2_with fail
          refine (isLockKind_is _ false L3.out _).mono ?_
          rintro e w1 ⟨rfl, rfl⟩
          go_wp2_with fail
          refine wp_region_held_drew (S := PrevWrite w g o k wr.heap.size m0 m1 m2 m3 n0 n1 n2 4) (by kernel_rfl) h0 (fun hS => ?_)
          clear h0
          refine tkH 0 ?_ hS (fun wx hx => ?_) ?_; rotate_left
          · obtain ⟨⟨hx0, hx1, hx2, hx3, hx4, hx5, hx6, hx7⟩, _⟩ := hx; go_simp; try with_reducible rfl
          refine tkH 1 ?_ hS (fun wx hx => ?_) ?_; rotate_left
          · obtain ⟨⟨hx0, hx1, hx2, hx3, hx4, hx5, hx6, hx7⟩, _⟩ := hx; go_simp; try with_reducible rfl
          refine tkH 2 ?_ hS (fun wx hx => ?_) ?_; rotate_left
          · obtain ⟨⟨hx0, hx1, hx2, hx3, hx4, hx5, hx6, hx7⟩, _⟩ := hx; go_simp; try with_reducible rfl
          refine tkH 3 ?_ hS (fun wx hx => ?_) ?_; rotate_left
          · obtain ⟨⟨hx0, hx1, hx2, hx3, hx4, hx5, hx6, hx7⟩, _⟩ := hx; go_simp; try with_reducible rfl
          refine tkH 4 ?_ hS (fun wx hx => ?_) ?_; rotate_left
          · obtain ⟨⟨hx0, hx1, hx2, hx3, hx4, hx5, hx6, hx7⟩, _⟩ := hx; go_simp; try with_reducible rfl
          refine tkH 5 ?_ hS (fun wx hx => ?_) ?_; rotate_left
          · obtain ⟨⟨hx0, hx1, hx2, hx3, hx4, hx5, hx6, hx7⟩, _⟩ := hx; go_simp; try with_reducible rfl
          refine tkH 6 ?_ hS (fun wx hx => ?_) ?_; rotate_left
          · obtain ⟨⟨hx0, hx1, hx2, hx3, hx4, hx5, hx6, hx7⟩, _⟩ := hx; go_simp; try with_reducible rfl
          refine tkH 7 ?_ hS (fun wx hx => ?_) ?_; rotate_left
          · obtain ⟨⟨hx0, hx1, hx2, hx3, hx4, hx5, hx6, hx7⟩, _⟩ := hx; go_simp; try with_reducible rfl
          refine tkH 8 ?_ hS (fun wx hx => ?_) ?_; rotate_left
          · obtain ⟨⟨hx0, hx1, hx2, hx3, hx4, hx5, hx6, hx7⟩, _⟩ := hx; go_simp; try with_reducible rfl
          refine rdH 9 (fun K hK => ?_)
          go_simp
          go_wp2_with fail
          refine (compareWrites_is _ _ _ _ _ _ _ _ r HR.out _).mono ?_
          rintro e w1 ⟨rfl, q1⟩
          have hS' := hS.later q1
          clear q1
          go_wp2_with fail
          refine hK.out _ _ hS' (fun hS => ?_)
          clear hK K hS'
          refine tkH 10 ?_ hS (fun wx hx => ?_) ?_; rotate_left
          · obtain ⟨⟨hx0, hx1, hx2, hx3, hx4, hx5, hx6, hx7⟩, _⟩ := hx; go_simp; try with_reducible rfl
          refine tkH 11 ?_ hS (fun wx hx => ?_) ?_; rotate_left
          · obtain ⟨⟨hx0, hx1, hx2, hx3, hx4, hx5, hx6, hx7⟩, _⟩ := hx; go_simp; try with_reducible rfl
          refine tkH 12 ?_ hS (fun wx hx => ?_) ?_; rotate_left
          · obtain ⟨⟨hx0, hx1, hx2, hx3, hx4, hx5, hx6, hx7⟩, _⟩ := hx; go_simp; try with_reducible rfl
          refine noH 13 hS ?_
          refine noH 14 hS ?_
          refine noH 15 hS ?_
          refine tkH 16 ?_ hS (fun wx hx => ?_) ?_; rotate_left
          · obtain ⟨⟨hx0, hx1, hx2, hx3, hx4, hx5, hx6, hx7⟩, _⟩ := hx; go_simp; try with_reducible rfl
          refine wpAnyH_done (by kernel_rfl) ?_ _
          go_simp
          go_wp2
          go_ret
          exact ⟨by rw [E.out]; rfl, hS.2⟩
        · have E : Hid (scan (writeF S.k) S.nw = 1) := by
            have : writeF S.k k = 1 := by
              unfold writeF
              rw [NN.out.1, NN.out.2.1, NN.out.2.2.1, NN.out.2.2.2]
              rw [if_neg (fun h => h G0.out)]
              have g1 := G1.out; have g2 := G2.out; have g3 := G3.out; rw [if_neg (by omega)]
              rw [MM.out.1, MM.out.2]
              have ho := HO.out
              rw [if_pos (Or.inr hft.out)]
            exact (scan_stop HS.out (by rw [this]; decide) hlt).trans this
          have dr : decide (0 ≤ r) = false := decide_eq_false hr
          clear HS NN FT G0 G1 G2 G3 MM HO hr hft
          go_wp2_with fail
          refine (L0.out _).mono ?_
          rintro e w1 ⟨rfl, rfl⟩
          go_wp2_with fail
          refine (isTime_is _ true L1.out _).mono ?_
          rintro e w1 ⟨rfl, rfl⟩
          go_wp2_with fail
          refine (isTime_is _ true L2.out _).mono ?_
          rintro e w1 ⟨rfl, rfl⟩
          go_wp2_with fail
          refine (isLockKind_is _ false L3.out _).mono ?_
          rintro e w1 ⟨rfl, rfl⟩
          go_wp2_with fail
          refine wp_region_held_drew (S := PrevWrite w g o k wr.heap.size m0 m1 m2 m3 n0 n1 n2 4) (by kernel_rfl) h0 (fun hS => ?_)
          clear h0
          refine tkH 0 ?_ hS (fun wx hx => ?_) ?_; rotate_left
          · obtain ⟨⟨hx0, hx1, hx2, hx3, hx4, hx5, hx6, hx7⟩, _⟩ := hx; go_simp; try with_reducible rfl
          refine tkH 1 ?_ hS (fun wx hx => ?_) ?_; rotate_left
          · obtain ⟨⟨hx0, hx1, hx2, hx3, hx4, hx5, hx6, hx7⟩, _⟩ := hx; go_simp; try with_reducible rfl
          refine tkH 2 ?_ hS (fun wx hx => ?_) ?_; rotate_left
          · obtain ⟨⟨hx0, hx1, hx2, hx3, hx4, hx5, hx6, hx7⟩, _⟩ := hx; go_simp; try with_reducible rfl
          refine tkH 3 ?_ hS (fun wx hx => ?_) ?_; rotate_left
          · obtain ⟨⟨hx0, hx1, hx2, hx3, hx4, hx5, hx6, hx7⟩, _⟩ := hx; go_simp; try with_reducible rfl
          refine tkH 4 ?_ hS (fun wx hx => ?_) ?_; rotate_left
          · obtain ⟨⟨hx0, hx1, hx2, hx3, hx4, hx5, hx6, hx7⟩, _⟩ := hx; go_simp; try with_reducible rfl
          refine tkH 5 ?_ hS (fun wx hx => ?_) ?_; rotate_left
          · obtain ⟨⟨hx0, hx1, hx2, hx3, hx4, hx5, hx6, hx7⟩, _⟩ := hx; go_simp; try with_reducible rfl
          refine tkH 6 ?_ hS (fun wx hx => ?_) ?_; rotate_left
          · obtain ⟨⟨hx0, hx1, hx2, hx3, hx4, hx5, hx6, hx7⟩, _⟩ := hx; go_simp; try with_reducible rfl
          refine tkH 7 ?_ hS (fun wx hx => ?_) ?_; rotate_left
          · obtain ⟨⟨hx0, hx1, hx2, hx3, hx4, hx5, hx6, hx7⟩, _⟩ := hx; go_simp; try with_reducible rfl
          refine tkH 8 ?_ hS (fun wx hx => ?_) ?_; rotate_left
          · obtain ⟨⟨hx0, hx1, hx2, hx3, hx4, hx5, hx6, hx7⟩, _⟩ := hx; go_simp; try with_reducible rfl
          refine rdH 9 (fun K hK => ?_)
          go_simp
          go_wp2_with fail
          refine (compareWrites_is _ _ _ _ _ _ _ _ r HR.out _).mono ?_
          rintro e w1 ⟨rfl, q1⟩
          have hS' := hS.later q1
          clear q1
          go_wp2_with fail
          refine hK.out _ _ hS' (fun hS => ?_)
          clear hK K hS'
          refine tkH 10 ?_ hS (fun wx hx => ?_) ?_; rotate_left
          · obtain ⟨⟨hx0, hx1, hx2, hx3, hx4, hx5, hx6, hx7⟩, _⟩ := hx; go_simp; try with_reducible rfl
          refine tkH 11 ?_ hS (fun wx hx => ?_) ?_; rotate_left
          · obtain ⟨⟨hx0, hx1, hx2, hx3, hx4, hx5, hx6, hx7⟩, _⟩ := hx; go_simp; try with_reducible rfl
          refine tkH 12 ?_ hS (fun wx hx => ?_) ?_; rotate_left
          · obtain ⟨⟨hx0, hx1, hx2, hx3, hx4, hx5, hx6, hx7⟩, _⟩ := hx; go_simp; try with_reducible rfl
          refine tkH 13 ?_ hS (fun wx hx => ?_) ?_; rotate_left
          · obtain ⟨⟨hx0, hx1, hx2, hx3, hx4, hx5, hx6, hx7⟩, _⟩ := hx; go_simp; try with_reducible rfl
          refine rdH 14 (fun K hK => ?_)
          go_simp
          go_wp2_with fail
          refine (D.out _).mono ?_
          rintro e w1 ⟨rfl, q1⟩
          have hS' := hS.later q1
          clear q1
          go_wp2_with fail
          refine hK.out _ _ hS' (fun hS => ?_)
          clear hK K hS'
          refine tkH 15 ?_ hS (fun wx hx => ?_) ?_; rotate_left
          · obtain ⟨⟨hx0, hx1, hx2, hx3, hx4, hx5, hx6, hx7⟩, _⟩ := hx; go_simp; try with_reducible rfl
          refine tkH 16 ?_ hS (fun wx hx => ?_) ?_; rotate_left
          · obtain ⟨⟨hx0, hx1, hx2, hx3, hx4, hx5, hx6, hx7⟩, _⟩ := hx; go_simp; try with_reducible rfl
          refine wpAnyH_done (by kernel_rfl) ?_ _
          go_simp
          go_wp2
          go_ret
          exact ⟨by rw [E.out]; rfl, hS.2⟩
end Go.Proofs.YtpfmifpjmcmlaaaGreat

