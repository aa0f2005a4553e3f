/-
  Own text. What the program's together answers: all stores' lists, one behind the other, in new memory.
-/
import Derived.Test.YtpfmbfmlpoibeaaGreatGrpE
import Derived.Test.YtpfmbfmlpoibeaaGreatAppR
import Derived.Deep.Cut
namespace Go.Proofs.YtpfmbfmlpoibeaaGreat
open Go.RowKit

/-- All numbers of the first k rows. -/
def allL (m : Nat) (N : Nat → Nat) (F : Nat → Nat → Int) : Nat → List Int
  | 0 => []
  | k + 1 => allL m N F k ++ nums (F k) (N k * m)
theorem all_len (m : Nat) (N : Nat → Nat) (F : Nat → Nat → Int) : ∀ k, (allL m N F k).length = sumN N k * m
  | 0 => by simp [allL, sumN]
  | k + 1 => by
    show (allL m N F k ++ nums (F k) (N k * m)).length = (sumN N k + N k) * m
    rw [List.length_append, nums_length, all_len m N F k, Nat.add_mul]
/-- All stores as one. -/
def unionS (n : Nat) (S : Nat → Sto) : Sto := ⟨sumN (fun i => (S i).nc) n, fun p => (allL 3 (fun i => (S i).nc) (fun i => (S i).c) n).getD p 0, sumN (fun i => (S i).nl) n, fun p => (allL 5 (fun i => (S i).nl) (fun i => (S i).l) n).getD p 0, sumN (fun i => (S i).nw) n, fun p => (allL 4 (fun i => (S i).nw) (fun i => (S i).k) n).getD p 0⟩
def ApaO (u v : Value) : Prop := ∀ q, u.ownBlock = some q → v.ownBlock ≠ some q
/-- Three rows under way: they lie in block b, each is owned from block B on, and they lie apart. -/
structure Tog (w x : World) (b B : Nat) (u0 u1 u2 : Value) (n0 n1 n2 : Nat) (L0 L1 L2 : List Int) : Prop where
  below : Below w.heap.size w x
  blk : Blk3 x b u0 u1 u2
  lo : w.heap.size ≤ b ∧ b < B ∧ B ≤ x.heap.size
  o0 : OwnM x B 140 3 u0 n0 L0
  o1 : OwnM x B 96 5 u1 n1 L1
  o2 : OwnM x B 45 4 u2 n2 L2
  a01 : ApaO u0 u1
  a02 : ApaO u0 u2
  a12 : ApaO u1 u2
theorem Tog.later {w x x' : World} {b B : Nat} {u0 u1 u2 : Value} {n0 n1 n2 : Nat} {L0 L1 L2 : List Int} (h : Tog w x b B u0 u1 u2 n0 n1 n2 L0 L1 L2) (hb : Below x.heap.size x x') : Tog w x' b B u0 u1 u2 n0 n1 n2 L0 L1 L2 :=
  ⟨h.below.trans (hb.mono h.below.size), h.blk.later hb, ⟨h.lo.1, h.lo.2.1, Nat.le_trans h.lo.2.2 hb.size⟩, h.o0.later hb, h.o1.later hb, h.o2.later hb, h.a01, h.a02, h.a12⟩
theorem ApaO.symm {u v : Value} (h : ApaO u v) : ApaO v u := fun q h1 h2 => h q h2 h1
/-- A row that is apart from one that has grown. -/
theorem OwnM.past {x x' : World} {B : Nat} {e : TypeId} {m : Nat} {u v : Value} {n : Nat} {L : List Int} (h : OwnM x B e m v n L) (hg : x.grownBy x' u.ownBlock) (ha : ApaO u v) : OwnM x' B e m v n L :=
  h.keptB (fun k hk => hg.block k (h.block k hk).2 (fun q => ha k q.symm hk))
theorem ApaO.moved {x : World} {B : Nat} {e : TypeId} {m : Nat} {u u' v : Value} {n : Nat} {L : List Int} (h : ApaO u v) (hv : OwnM x B e m v n L) (ho : u'.ownBlock = u.ownBlock ∨ u'.ownBlock = some x.heap.size) : ApaO u' v := fun q h1 h2 => by
  rcases ho with e | e
  · exact h q (e ▸ h1) h2
  · rw [e] at h1
    have := (hv.block q h2).2
    simp at h1
    omega
theorem blk_past {x x' : World} {b B : Nat} {e : TypeId} {m : Nat} {u : Value} {n : Nat} {L : List Int} {a0 a1 a2 : Value} (h : Blk3 x b a0 a1 a2) (hu : OwnM x B e m u n L) (hb : b < B) (hg : x.grownBy x' u.ownBlock) : Blk3 x' b a0 a1 a2 :=
  h.kept (hg.block b h.lt (fun q => by have := (hu.block b q.symm).1; omega))
theorem below_past {w x x' : World} {B : Nat} {e : TypeId} {m : Nat} {u : Value} {n : Nat} {L : List Int} (h : Below w.heap.size w x) (hu : OwnM x B e m u n L) (hB : w.heap.size ≤ B) (hg : x.grownBy x' u.ownBlock) : Below w.heap.size w x' :=
  ⟨hg.os.trans h.os, hg.tape.trans h.tape, hg.output.trans h.output, Nat.le_trans h.size hg.size, fun i hi => (hg.block i (Nat.lt_of_lt_of_le hi h.size) (fun q => by have := (hu.block i q.symm).1; omega)).trans (h.block i hi)⟩
theorem Tog.put0 {w x x' : World} {b B : Nat} {u0 u1 u2 u : Value} {n0 n1 n2 k : Nat} {L0 L1 L2 L : List Int} (h : Tog w x b B u0 u1 u2 n0 n1 n2 L0 L1 L2) (ho : OwnM x' B 140 3 u k L) (hg : x.grownBy x' u0.ownBlock) (hat : u.ownBlock = u0.ownBlock ∨ u.ownBlock = some x.heap.size) : Tog w (x'.setCell ⟨b, 0, none⟩ u) b B u u1 u2 k n1 n2 L L1 L2 :=
  ⟨(below_past h.below h.o0 (by have := h.lo; omega) hg).setCell h.lo.1 _, (blk_past h.blk h.o0 h.lo.2.1 hg).set0 _, ⟨h.lo.1, h.lo.2.1, by have := h.lo.2.2; have := hg.size; simp [World.setCell]; omega⟩, ho.far h.lo.2.1 _, (h.o1.past hg h.a01).far h.lo.2.1 _, (h.o2.past hg h.a02).far h.lo.2.1 _, h.a01.moved h.o1 hat, h.a02.moved h.o2 hat, h.a12⟩
theorem Tog.put1 {w x x' : World} {b B : Nat} {u0 u1 u2 u : Value} {n0 n1 n2 k : Nat} {L0 L1 L2 L : List Int} (h : Tog w x b B u0 u1 u2 n0 n1 n2 L0 L1 L2) (ho : OwnM x' B 96 5 u k L) (hg : x.grownBy x' u1.ownBlock) (hat : u.ownBlock = u1.ownBlock ∨ u.ownBlock = some x.heap.size) : Tog w (x'.setCell ⟨b, 1, none⟩ u) b B u0 u u2 n0 k n2 L0 L L2 :=
  ⟨(below_past h.below h.o1 (by have := h.lo; omega) hg).setCell h.lo.1 _, (blk_past h.blk h.o1 h.lo.2.1 hg).set1 _, ⟨h.lo.1, h.lo.2.1, by have := h.lo.2.2; have := hg.size; simp [World.setCell]; omega⟩, (h.o0.past hg h.a01.symm).far h.lo.2.1 _, ho.far h.lo.2.1 _, (h.o2.past hg h.a12).far h.lo.2.1 _, (h.a01.symm.moved h.o0 hat).symm, h.a02, h.a12.moved h.o2 hat⟩
theorem Tog.put2 {w x x' : World} {b B : Nat} {u0 u1 u2 u : Value} {n0 n1 n2 k : Nat} {L0 L1 L2 L : List Int} (h : Tog w x b B u0 u1 u2 n0 n1 n2 L0 L1 L2) (ho : OwnM x' B 45 4 u k L) (hg : x.grownBy x' u2.ownBlock) (hat : u.ownBlock = u2.ownBlock ∨ u.ownBlock = some x.heap.size) : Tog w (x'.setCell ⟨b, 2, none⟩ u) b B u0 u1 u n0 n1 k L0 L1 L :=
  ⟨(below_past h.below h.o2 (by have := h.lo; omega) hg).setCell h.lo.1 _, (blk_past h.blk h.o2 h.lo.2.1 hg).set2 _, ⟨h.lo.1, h.lo.2.1, by have := h.lo.2.2; have := hg.size; simp [World.setCell]; omega⟩, (h.o0.past hg h.a02.symm).far h.lo.2.1 _, (h.o1.past hg h.a12.symm).far h.lo.2.1 _, ho.far h.lo.2.1 _, h.a01, (h.a02.symm.moved h.o0 hat).symm, (h.a12.symm.moved h.o1 hat).symm⟩
theorem apartD_apa {x : World} {B0 B1 : Nat} {R : Sto} {u0 u1 u2 : Value} (r0 : Row x B0 3 R.nc R.c u0) (r1 : Row x B1 5 R.nl R.l u1) (h01 : ApaO u0 u1) (h02 : ApaO u0 u2) (h12 : ApaO u1 u2) : ApartD R u0 u1 u2 := by
  have own : ∀ {B m n : Nat} {F : Nat → Int} {u : Value}, Row x B m n F u → 0 < n → ∃ k, u.ownBlock = some k := fun hr hn => by
    obtain ⟨ao, cp, rfl, hr⟩ := hr
    obtain ⟨g, o, rfl, _⟩ := hr hn
    exact ⟨g, rfl⟩
  refine ⟨fun h0 _ e => ?_, fun h0 _ e => ?_, fun h1 _ e => ?_⟩
  · obtain ⟨k, hk⟩ := own r0 h0
    exact h01 k hk (e ▸ hk)
  · obtain ⟨k, hk⟩ := own r0 h0
    exact h02 k hk (e ▸ hk)
  · obtain ⟨k, hk⟩ := own r1 h1
    exact h12 k hk (e ▸ hk)
set_option maxRecDepth 100000 in
set_option maxHeartbeats 8000000 in
theorem together_any (n : Nat) (S : Nat → Sto) (V : Nat → Nat → Value) (v : Value) (B : Nat) (w : World) (h : Stos w B n S V v) (hn : n ≤ 6) (hs : ∀ i, i < n → (S i).nc ≤ 200 ∧ (S i).nl ≤ 200 ∧ (S i).nw ≤ 200) :
    Calls Tryz.prog 31 #[v] w (NewSto w (unionS n S)) := by
  obtain ⟨ao, cp, rfl⟩ := h.form
  have H : Hid (Stos w B n S V (.slice ao n cp)) := h
  have HN : Hid (∀ i, i < n → (S i).nc ≤ 200 ∧ (S i).nl ≤ 200 ∧ (S i).nw ≤ 200) := hs
  clear h hs
  go_enter Tryz.func31, Tryz.ntmps31
  go_wp2
  go_loopw [8] (fun i wr => ∃ (k p0 p1 p2 : Nat) (a0 a1 a2 : Option Addr) (c0 c1 c2 : Nat), k ≤ n ∧ i = .int .i64 k ∧ Hid (p0 = sumN (fun i => (S i).nc) k ∧ p1 = sumN (fun i => (S i).nl) k ∧ p2 = sumN (fun i => (S i).nw) k) ∧ Hid (Tog w wr (w.heap.size + 1) (w.heap.size + 2) (.slice a0 p0 c0) (.slice a1 p1 c1) (.slice a2 p2 c2) p0 p1 p2 (allL 3 (fun i => (S i).nc) (fun i => (S i).c) k) (allL 5 (fun i => (S i).nl) (fun i => (S i).l) k) (allL 4 (fun i => (S i).nw) (fun i => (S i).k) k)) ∧ Hid (Blk3 wr w.heap.size (.slice none 0 0) (.slice none 0 0) (.slice none 0 0))) (fun i _ => n - (intOf i).toNat)
  case atStart =>
    refine ⟨0, 0, 0, 0, none, none, none, 0, 0, 0, Nat.zero_le _, rfl, ⟨rfl, rfl, rfl⟩, ⟨(below_alloc _ _).alloc (by simp) _, ?_, ⟨by omega, by omega, by simp⟩, OwnM.nil _ _ _ _, OwnM.nil _ _ _ _, OwnM.nil _ _ _ _, (fun q e => by cases e), (fun q e => by cases e), (fun q e => by cases e)⟩, (Blk3.new w _ _ _ _).alloc _⟩
    have := Blk3.new (w.alloc (.cells #[.slice none 0 0, .slice none 0 0, .slice none 0 0] 37)) (.slice none 0 0) (.slice none 0 0) (.slice none 0 0) 37
    rwa [World.size_alloc] at this
  case round =>
    obtain ⟨k, p0, p1, p2, a0, a1, a2, c0, c1, c2, hk, rfl, HS, HT, HR⟩ := hrel
    have q0 : p0 ≤ 1200 := by rw [HS.out.1]; exact sum_small (fun i hi => (HN.out i hi).1) hn hk
    have q1 : p1 ≤ 1200 := by rw [HS.out.2.1]; exact sum_small (fun i hi => (HN.out i hi).2.1) hn hk
    have q2 : p2 ≤ 1200 := by rw [HS.out.2.2]; exact sum_small (fun i hi => (HN.out i hi).2.2) hn hk
    by_cases hlt : k < n
    · obtain ⟨g, o, rfl, _, hg, ⟨b0, b1, b2⟩, sk⟩ := H.out.at hlt
      replace b0 := (HT.out.below.cell (p := ⟨g, o + k * 3, none⟩) hg).trans b0
      replace b1 := (HT.out.below.cell (p := ⟨g, o + k * 3 + 1, none⟩) hg).trans b1
      replace b2 := (HT.out.below.cell (p := ⟨g, o + k * 3 + 2, none⟩) hg).trans b2
      obtain ⟨i0', d0, i1', d1, i2', d2, e0, e1, e2⟩ := sk.form
      obtain ⟨n0, hn0⟩ : ∃ x, (S k).nc = x := ⟨_, rfl⟩
      obtain ⟨n1, hn1⟩ : ∃ x, (S k).nl = x := ⟨_, rfl⟩
      obtain ⟨n2, hn2⟩ : ∃ x, (S k).nw = x := ⟨_, rfl⟩
      rw [e0, hn0] at b0
      rw [e1, hn1] at b1
      rw [e2, hn2] at b2
      have SK : Hid (Row w B 3 n0 (S k).c (.slice i0' n0 d0) ∧ Row w B 5 n1 (S k).l (.slice i1' n1 d1) ∧ Row w B 4 n2 (S k).k (.slice i2' n2 d2)) := by
        rw [e0, e1, e2] at sk
        obtain ⟨h0, h1, h2⟩ := sk
        rw [hn0] at h0
        rw [hn1] at h1
        rw [hn2] at h2
        exact ⟨h0, h1, h2⟩
      have hB := HN.out k hlt
      rw [hn0, hn1, hn2] at hB
      obtain ⟨m0, m1, m2⟩ := hB
      have HS1 : Hid (p0 + n0 = sumN (fun i => (S i).nc) (k + 1) ∧ p1 + n1 = sumN (fun i => (S i).nl) (k + 1) ∧ p2 + n2 = sumN (fun i => (S i).nw) (k + 1)) := by
        refine ⟨?_, ?_, ?_⟩
        · show _ = sumN (fun i => (S i).nc) k + (S k).nc
          rw [HS.out.1, hn0]
        · show _ = sumN (fun i => (S i).nl) k + (S k).nl
          rw [HS.out.2.1, hn1]
        · show _ = sumN (fun i => (S i).nw) k + (S k).nw
          rw [HS.out.2.2, hn2]
      obtain ⟨L0, hL0⟩ : ∃ L, allL 3 (fun i => (S i).nc) (fun i => (S i).c) k = L := ⟨_, rfl⟩
      obtain ⟨L1, hL1⟩ : ∃ L, allL 5 (fun i => (S i).nl) (fun i => (S i).l) k = L := ⟨_, rfl⟩
      obtain ⟨L2, hL2⟩ : ∃ L, allL 4 (fun i => (S i).nw) (fun i => (S i).k) k = L := ⟨_, rfl⟩
      have HL1 : Hid (L0 ++ nums (S k).c (n0 * 3) = allL 3 (fun i => (S i).nc) (fun i => (S i).c) (k + 1) ∧ L1 ++ nums (S k).l (n1 * 5) = allL 5 (fun i => (S i).nl) (fun i => (S i).l) (k + 1) ∧ L2 ++ nums (S k).k (n2 * 4) = allL 4 (fun i => (S i).nw) (fun i => (S i).k) (k + 1)) := by
        rw [← hn0, ← hn1, ← hn2, ← hL0, ← hL1, ← hL2]
        exact ⟨rfl, rfl, rfl⟩
      have HT := HT.out
      rw [hL0, hL1, hL2] at HT
      clear sk e0 e1 e2 hn0 hn1 hn2 hL0 hL1 hL2 HS
      have hq : Hid (w.heap.size + 2 ≤ wr.heap.size) := HT.lo.2.2
      have NQ : Hid ((∀ q, (Value.slice a0 p0 c0).ownBlock = some q → q ≠ wr.heap.size) ∧ (∀ q, (Value.slice a1 p1 c1).ownBlock = some q → q ≠ wr.heap.size) ∧ (∀ q, (Value.slice a2 p2 c2).ownBlock = some q → q ≠ wr.heap.size)) := ⟨fun q e => by have := (HT.o0.block q e).2; omega, fun q e => by have := (HT.o1.block q e).2; omega, fun q e => by have := (HT.o2.block q e).2; omega⟩
      have TT : Hid (Tog w (wr.alloc (.cells #[.slice i0' n0 d0, .slice i1' n1 d1, .slice i2' n2 d2] 37)) (w.heap.size + 1) (w.heap.size + 2) (.slice a0 p0 c0) (.slice a1 p1 c1) (.slice a2 p2 c2) p0 p1 p2 L0 L1 L2) := HT.later (below_alloc _ _)
      have Q1 : Hid (Blk3 (wr.alloc (.cells #[.slice i0' n0 d0, .slice i1' n1 d1, .slice i2' n2 d2] 37)) wr.heap.size (.slice i0' n0 d0) (.slice i1' n1 d1) (.slice i2' n2 d2)) := Blk3.new _ _ _ _ _
      have RB : Hid (Blk3 (wr.alloc (.cells #[.slice i0' n0 d0, .slice i1' n1 d1, .slice i2' n2 d2] 37)) w.heap.size (.slice none 0 0) (.slice none 0 0) (.slice none 0 0)) := HR.out.alloc _
      clear HT HR
      go_upto_region 5 with fail
      generalize wr.alloc (.cells #[.slice i0' n0 d0, .slice i1' n1 d1, .slice i2' n2 d2] 37) = x1 at TT Q1 RB ⊢
      clear b0 b1 b2
      generalize wr.heap.size = q at hq NQ Q1 ⊢
      obtain ⟨⟨t0, t1, t2⟩, ft0, ft1, ft2⟩ := TT.out.blk
      obtain ⟨⟨s0, s1, s2⟩, _⟩ := Q1.out
      obtain ⟨i0, hi, hz0, hz1, hz2⟩ := info_parts info_Cell
      have hbs : w.heap.size + 2 ≤ x1.heap.size := TT.out.lo.2.2
      go_upto_region 6 with (at_builtin; refine wpList_appL 140 i0 (.agg #[.int .i64 0, .int .i64 0, .int .i64 0]) 3 24 rfl _ _ 33 rfl Tryz.underlying33 hi hz0 hz1 hz2 rfl (by omega) (by omega) _ (w.heap.size + 2) p0 _ (.slice a0 p0 c0) rfl TT.out.o0 B n0 _ _ rfl (SK.out.1.later TT.out.below) (by omega) hbs ?_; intro ao0 cp0 y OY GY AY; obtain ⟨⟨t0, t1, t2⟩, ft0, ft1, ft2⟩ := blk_past TT.out.blk TT.out.o0 TT.out.lo.2.1 GY)
      have TT' : Hid (Tog w (y.setCell ⟨w.heap.size + 1, 0, none⟩ (.slice ao0 (p0 + n0) cp0)) (w.heap.size + 1) (w.heap.size + 2) (.slice ao0 (p0 + n0) cp0) (.slice a1 p1 c1) (.slice a2 p2 c2) (p0 + n0) p1 p2 (L0 ++ nums (S k).c (n0 * 3)) L1 L2) := TT.out.put0 OY GY AY
      have Q1' : Hid (Blk3 (y.setCell ⟨w.heap.size + 1, 0, none⟩ (.slice ao0 (p0 + n0) cp0)) q (.slice i0' n0 d0) (.slice i1' n1 d1) (.slice i2' n2 d2)) := (Q1.out.kept (GY.block q Q1.out.lt (fun e => NQ.out.1 q e.symm rfl))).setFar (by show q ≠ w.heap.size + 1; have := hq.out; omega) _
      have RB' : Hid (Blk3 (y.setCell ⟨w.heap.size + 1, 0, none⟩ (.slice ao0 (p0 + n0) cp0)) w.heap.size (.slice none 0 0) (.slice none 0 0) (.slice none 0 0)) := (blk_past RB.out TT.out.o0 (by omega) GY).setFar (by simp) _
      generalize y.setCell ⟨w.heap.size + 1, 0, none⟩ (.slice ao0 (p0 + n0) cp0) = z0 at TT' Q1' RB' ⊢
      clear TT Q1 RB t0 t1 t2 ft0 ft1 ft2 s0 s1 s2 OY GY AY hi hz0 hz1 hz2 hbs i0
      have TT := TT'
      have Q1 := Q1'
      have RB := RB'
      clear TT' Q1' RB'
      obtain ⟨⟨t0, t1, t2⟩, ft0, ft1, ft2⟩ := TT.out.blk
      obtain ⟨⟨s0, s1, s2⟩, _⟩ := Q1.out
      obtain ⟨i0, hi, hz0, hz1, hz2⟩ := info_parts info_Lock
      have hbs : w.heap.size + 2 ≤ z0.heap.size := TT.out.lo.2.2
      go_upto_region 7 with (at_builtin; refine wpList_appL 96 i0 (.agg #[.int .i64 0, .int .i64 0, .int .i64 0, .int .i64 0, .int .i64 0]) 5 40 rfl _ _ 34 rfl Tryz.underlying34 hi hz0 hz1 hz2 rfl (by omega) (by omega) _ (w.heap.size + 2) p1 _ (.slice a1 p1 c1) rfl TT.out.o1 B n1 _ _ rfl (SK.out.2.1.later TT.out.below) (by omega) hbs ?_; intro ao1 cp1 y OY GY AY; obtain ⟨⟨t0, t1, t2⟩, ft0, ft1, ft2⟩ := blk_past TT.out.blk TT.out.o1 TT.out.lo.2.1 GY)
      have TT' : Hid (Tog w (y.setCell ⟨w.heap.size + 1, 1, none⟩ (.slice ao1 (p1 + n1) cp1)) (w.heap.size + 1) (w.heap.size + 2) (.slice ao0 (p0 + n0) cp0) (.slice ao1 (p1 + n1) cp1) (.slice a2 p2 c2) (p0 + n0) (p1 + n1) p2 (L0 ++ nums (S k).c (n0 * 3)) (L1 ++ nums (S k).l (n1 * 5)) L2) := TT.out.put1 OY GY AY
      have Q1' : Hid (Blk3 (y.setCell ⟨w.heap.size + 1, 1, none⟩ (.slice ao1 (p1 + n1) cp1)) q (.slice i0' n0 d0) (.slice i1' n1 d1) (.slice i2' n2 d2)) := (Q1.out.kept (GY.block q Q1.out.lt (fun e => NQ.out.2.1 q e.symm rfl))).setFar (by show q ≠ w.heap.size + 1; have := hq.out; omega) _
      have RB' : Hid (Blk3 (y.setCell ⟨w.heap.size + 1, 1, none⟩ (.slice ao1 (p1 + n1) cp1)) w.heap.size (.slice none 0 0) (.slice none 0 0) (.slice none 0 0)) := (blk_past RB.out TT.out.o1 (by omega) GY).setFar (by simp) _
      generalize y.setCell ⟨w.heap.size + 1, 1, none⟩ (.slice ao1 (p1 + n1) cp1) = z1 at TT' Q1' RB' ⊢
      clear TT Q1 RB t0 t1 t2 ft0 ft1 ft2 s0 s1 s2 OY GY AY hi hz0 hz1 hz2 hbs i0
      have TT := TT'
      have Q1 := Q1'
      have RB := RB'
      clear TT' Q1' RB'
      obtain ⟨⟨t0, t1, t2⟩, ft0, ft1, ft2⟩ := TT.out.blk
      obtain ⟨⟨s0, s1, s2⟩, _⟩ := Q1.out
      obtain ⟨i0, hi, hz0, hz1, hz2⟩ := info_parts info_Write
      have hbs : w.heap.size + 2 ≤ z1.heap.size := TT.out.lo.2.2
      go_upto_region 8 with (at_builtin; refine wpList_appL 45 i0 (.agg #[.int .i64 0, .int .i64 0, .int .i64 0, .int .i64 0]) 4 32 rfl _ _ 35 rfl Tryz.underlying35 hi hz0 hz1 hz2 rfl (by omega) (by omega) _ (w.heap.size + 2) p2 _ (.slice a2 p2 c2) rfl TT.out.o2 B n2 _ _ rfl (SK.out.2.2.later TT.out.below) (by omega) hbs ?_; intro ao2 cp2 y OY GY AY; obtain ⟨⟨t0, t1, t2⟩, ft0, ft1, ft2⟩ := blk_past TT.out.blk TT.out.o2 TT.out.lo.2.1 GY)
      have TT' : Hid (Tog w (y.setCell ⟨w.heap.size + 1, 2, none⟩ (.slice ao2 (p2 + n2) cp2)) (w.heap.size + 1) (w.heap.size + 2) (.slice ao0 (p0 + n0) cp0) (.slice ao1 (p1 + n1) cp1) (.slice ao2 (p2 + n2) cp2) (p0 + n0) (p1 + n1) (p2 + n2) (L0 ++ nums (S k).c (n0 * 3)) (L1 ++ nums (S k).l (n1 * 5)) (L2 ++ nums (S k).k (n2 * 4))) := TT.out.put2 OY GY AY
      have Q1' : Hid (Blk3 (y.setCell ⟨w.heap.size + 1, 2, none⟩ (.slice ao2 (p2 + n2) cp2)) q (.slice i0' n0 d0) (.slice i1' n1 d1) (.slice i2' n2 d2)) := (Q1.out.kept (GY.block q Q1.out.lt (fun e => NQ.out.2.2 q e.symm rfl))).setFar (by show q ≠ w.heap.size + 1; have := hq.out; omega) _
      have RB' : Hid (Blk3 (y.setCell ⟨w.heap.size + 1, 2, none⟩ (.slice ao2 (p2 + n2) cp2)) w.heap.size (.slice none 0 0) (.slice none 0 0) (.slice none 0 0)) := (blk_past RB.out TT.out.o2 (by omega) GY).setFar (by simp) _
      generalize y.setCell ⟨w.heap.size + 1, 2, none⟩ (.slice ao2 (p2 + n2) cp2) = z2 at TT' Q1' RB' ⊢
      clear TT Q1 RB t0 t1 t2 ft0 ft1 ft2 s0 s1 s2 OY GY AY hi hz0 hz1 hz2 hbs i0
      have TT := TT'
      have Q1 := Q1'
      have RB := RB'
      clear TT' Q1' RB'
      rw [HL1.out.1, HL1.out.2.1, HL1.out.2.2] at TT
      clear Q1 NQ hq SK HL1
      go_wp2
      go_roundw
      case rel => exact ⟨k + 1, p0 + n0, p1 + n1, p2 + n2, ao0, ao1, ao2, cp0, cp1, cp2, by omega, by go_num, HS1, TT, RB⟩
      case measure => simp [intOf]; omega
    · obtain rfl : k = n := by omega
      obtain ⟨⟨t0, t1, t2⟩, ft0, ft1, ft2⟩ := HT.out.blk
      obtain ⟨⟨r0, r1, r2⟩, f0, f1, f2⟩ := HR.out
      have HE : Hid (unionS k S = ⟨p0, fun p => (allL 3 (fun i => (S i).nc) (fun i => (S i).c) k).getD p 0, p1, fun p => (allL 5 (fun i => (S i).nl) (fun i => (S i).l) k).getD p 0, p2, fun p => (allL 4 (fun i => (S i).nw) (fun i => (S i).k) k).getD p 0⟩) := by
        unfold Hid unionS
        rw [← HS.out.1, ← HS.out.2.1, ← HS.out.2.2]
      have o0 := (HT.out.o0.own (by rw [all_len, HS.out.1])).row
      have o1 := (HT.out.o1.own (by rw [all_len, HS.out.2.1])).row
      have o2 := (HT.out.o2.own (by rw [all_len, HS.out.2.2])).row
      have HO : Hid (St wr (w.heap.size + 2) (unionS k S) (.slice a0 p0 c0) (.slice a1 p1 c1) (.slice a2 p2 c2) ∧ FreeS wr (unionS k S) (.slice a0 p0 c0) (.slice a1 p1 c1) (.slice a2 p2 c2) ∧ ApartD (unionS k S) (.slice a0 p0 c0) (.slice a1 p1 c1) (.slice a2 p2 c2)) := by
        rw [HE.out]
        exact ⟨⟨o0.1, o1.1, o2.1⟩, ⟨o0.2, o1.2, o2.2⟩, apartD_apa o0.1 o1.1 HT.out.a01 HT.out.a02 HT.out.a12⟩
      have hn0 : Hid ((unionS k S).nc = p0 ∧ (unionS k S).nl = p1 ∧ (unionS k S).nw = p2) := by rw [HE.out]; exact ⟨rfl, rfl, rfl⟩
      clear o0 o1 o2 HE HS
      unfold NewSto
      go_wp2
      refine bodyPost_ret (v := .agg #[.slice a0 p0 c0, .slice a1 p1 c1, .slice a2 p2 c2]) (by simp [results, Tryz.results31, go_sem, r0, r1, r2]) rfl ?_
      have hlo : w.heap.size < w.heap.size + 2 := by omega
      refine ⟨a0, c0, a1, c1, a2, c2, ?_, ?_, ((HT.out.below.setCell (Nat.le_refl _) _).setCell (Nat.le_refl _) _).setCell (Nat.le_refl _) _⟩
      · rw [hn0.out.1, hn0.out.2.1, hn0.out.2.2]
      · rw [hn0.out.1, hn0.out.2.1, hn0.out.2.2]
        exact ⟨(((HO.out.1.far hlo _).far hlo _).far hlo _).mono (by omega), ((HO.out.2.1.far _ _).far _ _).far _ _, HO.out.2.2⟩
end Go.Proofs.YtpfmbfmlpoibeaaGreat
