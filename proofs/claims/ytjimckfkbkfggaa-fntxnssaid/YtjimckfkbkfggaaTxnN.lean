/-
  Own text. Chapter 8: NewTxn of the program and of the model.
-/
import Derived.Test.YtjimckfkbkfggaaTxnL
namespace Go.Proofs.Ytjimckfkbkfggaa
open Go.RowKit

/-- Block b holds seven cells, none frozen. -/
def Blk7 (x : World) (b : Nat) (a0 a1 a2 a3 a4 a5 a6 : Value) : Prop := (x.cell? ⟨b, 0, none⟩ = some a0 ∧ x.cell? ⟨b, 1, none⟩ = some a1 ∧ x.cell? ⟨b, 2, none⟩ = some a2 ∧ x.cell? ⟨b, 3, none⟩ = some a3 ∧ x.cell? ⟨b, 4, none⟩ = some a4 ∧ x.cell? ⟨b, 5, none⟩ = some a5 ∧ x.cell? ⟨b, 6, none⟩ = some a6) ∧ x.frozen? ⟨b, 0, none⟩ = false ∧ x.frozen? ⟨b, 1, none⟩ = false ∧ x.frozen? ⟨b, 2, none⟩ = false ∧ x.frozen? ⟨b, 3, none⟩ = false ∧ x.frozen? ⟨b, 4, none⟩ = false ∧ x.frozen? ⟨b, 5, none⟩ = false ∧ x.frozen? ⟨b, 6, none⟩ = false
theorem Blk7.kept {x x' : World} {b : Nat} {a0 a1 a2 a3 a4 a5 a6 : Value} (h : Blk7 x b a0 a1 a2 a3 a4 a5 a6) (hb : x'.heap[b]? = x.heap[b]?) : Blk7 x' b a0 a1 a2 a3 a4 a5 a6 := by
  obtain ⟨⟨h0, h1, h2, h3, h4, h5, h6⟩, f0, f1, f2, f3, f4, f5, f6⟩ := h
  exact ⟨⟨(World.cell?_of_block (w := x) (a := ⟨b, 0, none⟩) hb).trans h0, (World.cell?_of_block (w := x) (a := ⟨b, 1, none⟩) hb).trans h1, (World.cell?_of_block (w := x) (a := ⟨b, 2, none⟩) hb).trans h2, (World.cell?_of_block (w := x) (a := ⟨b, 3, none⟩) hb).trans h3, (World.cell?_of_block (w := x) (a := ⟨b, 4, none⟩) hb).trans h4, (World.cell?_of_block (w := x) (a := ⟨b, 5, none⟩) hb).trans h5, (World.cell?_of_block (w := x) (a := ⟨b, 6, none⟩) hb).trans h6⟩, (World.frozen?_of_block (w := x) (a := ⟨b, 0, none⟩) hb).trans f0, (World.frozen?_of_block (w := x) (a := ⟨b, 1, none⟩) hb).trans f1, (World.frozen?_of_block (w := x) (a := ⟨b, 2, none⟩) hb).trans f2, (World.frozen?_of_block (w := x) (a := ⟨b, 3, none⟩) hb).trans f3, (World.frozen?_of_block (w := x) (a := ⟨b, 4, none⟩) hb).trans f4, (World.frozen?_of_block (w := x) (a := ⟨b, 5, none⟩) hb).trans f5, (World.frozen?_of_block (w := x) (a := ⟨b, 6, none⟩) hb).trans f6⟩
theorem Blk7.lt {x : World} {b : Nat} {a0 a1 a2 a3 a4 a5 a6 : Value} (h : Blk7 x b a0 a1 a2 a3 a4 a5 a6) : b < x.heap.size := World.block_lt_of_cell? x _ h.1.1
theorem Blk7.later {x x' : World} {b : Nat} {a0 a1 a2 a3 a4 a5 a6 : Value} (h : Blk7 x b a0 a1 a2 a3 a4 a5 a6) (hb : Below x.heap.size x x') : Blk7 x' b a0 a1 a2 a3 a4 a5 a6 := h.kept (hb.block b h.lt)
theorem Blk7.new (w : World) (a0 a1 a2 a3 a4 a5 a6 : Value) (t : TypeId) : Blk7 (w.alloc (.cells #[a0, a1, a2, a3, a4, a5, a6] t)) w.heap.size a0 a1 a2 a3 a4 a5 a6 := by
  refine ⟨⟨World.cell?_alloc_mark w _ _ _ 0, World.cell?_alloc_mark w _ _ _ 1, World.cell?_alloc_mark w _ _ _ 2, World.cell?_alloc_mark w _ _ _ 3, World.cell?_alloc_mark w _ _ _ 4, World.cell?_alloc_mark w _ _ _ 5, World.cell?_alloc_mark w _ _ _ 6⟩, ?_, ?_, ?_, ?_, ?_, ?_, ?_⟩ <;> simp
/-- A new transaction, or what is told in its place. -/
def ResT (w : World) (c s u st : Int) (m : Nat) (L : List Int) (e : Ending) (w' : World) : Prop := ∃ v, e = .returned (.agg #[.int .i64 c, .int .i64 s, .int .i64 0, .int .i64 u, .int .i64 st, .int .i64 0, v]) ∧ OwnM w' w.heap.size 35 3 v m L ∧ Below w.heap.size w w'
/-- What NewTxn answers. -/
def NewT (s u : Int) (n : Nat) (F : Nat → Int) (nr : Nat) (R : Nat → Int) (c s' u' st' : Int) (m : Nat) (L : List Int) : Prop :=
  (12 < nr ∧ c = 2 ∧ s' = 0 ∧ u' = 0 ∧ st' = 0 ∧ m = 0 ∧ L = []) ∨
  (nr ≤ 12 ∧ ∃ q, (wR (nums F (n * 3)) R nr).length = q * 3 ∧ txnF s 0 u 1 0 q (fun p => (wR (nums F (n * 3)) R nr).getD p 0) = c ∧
    ((c ≠ 0 ∧ s' = 0 ∧ u' = 0 ∧ st' = 0 ∧ m = 0 ∧ L = []) ∨ (c = 0 ∧ s' = s ∧ u' = u ∧ st' = 1 ∧ m = q ∧ L = wR (nums F (n * 3)) R nr)))
theorem NewT.get (s u : Int) (n : Nat) (F : Nat → Int) (nr : Nat) (R : Nat → Int) : ∃ c s' u' st' m L, NewT s u n F nr R c s' u' st' m L := by
  by_cases h : 12 < nr
  · exact ⟨_, _, _, _, _, _, Or.inl ⟨h, rfl, rfl, rfl, rfl, rfl, rfl⟩⟩
  · obtain ⟨q, hq⟩ := wR_three (nums F (n * 3)) R ⟨n, nums_length _ _⟩ nr
    by_cases h0 : txnF s 0 u 1 0 q (fun p => (wR (nums F (n * 3)) R nr).getD p 0) = 0
    · exact ⟨_, _, _, _, _, _, Or.inr ⟨by omega, q, hq, h0, Or.inr ⟨rfl, rfl, rfl, rfl, rfl, rfl⟩⟩⟩
    · exact ⟨_, _, _, _, _, _, Or.inr ⟨by omega, q, hq, rfl, Or.inl ⟨h0, rfl, rfl, rfl, rfl, rfl⟩⟩⟩
theorem OwnM.monoB {w : World} {B B' : Nat} {e : TypeId} {m n : Nat} {v : Value} {L : List Int} (h : OwnM w B e m v n L) (hB : B' ≤ B) : OwnM w B' e m v n L := World.ownsRow.mono h hB
set_option maxRecDepth 100000 in
set_option maxHeartbeats 4000000 in
theorem implNewTxn_is (s u : Int) (yw yr : Value) (n nr : Nat) (F R : Nat → Int) (w : World) (hw : Row w 0 3 n F yw) (hr : Row w 0 1 nr R yr) (hn : n ≤ 1048576) (c s' u' st' : Int) (m : Nat) (L : List Int) (ha : NewT s u n F nr R c s' u' st' m L) :
    Calls Try.prog 11 #[.int .i64 s, .int .i64 u, yr, yw] w (ResT w c s' u' st' m L) := by
  obtain ⟨aw, cw, rfl⟩ := hw.form
  obtain ⟨ar, cr, rfl⟩ := hr.form
  have H : Hid (Row w 0 3 n F (.slice aw n cw)) := hw
  have HR : Hid (Row w 0 1 nr R (.slice ar nr cr)) := hr
  clear hw hr
  rcases ha with ⟨h12, rfl, rfl, rfl, rfl, rfl, rfl⟩ | ⟨h12, q, hq, hf, ha⟩
  · have d : decide ((12 : Int) < (nr : Int)) = true := decide_eq_true (by omega)
    clear h12
    go_enter Try.func11, Try.ntmps11
    go_wp2
    refine bodyPost_ret (v := .agg #[.int .i64 2, .int .i64 0, .int .i64 0, .int .i64 0, .int .i64 0, .int .i64 0, .slice none 0 0]) (by simp [results, Try.results11, go_sem]) rfl ⟨_, rfl, OwnM.nil _ _ _ _, ?_⟩
    first
      | exact below_alloc _ _
      | exact (((((((below_alloc w _).setCell (by simp) _).setCell (by simp) _).setCell (by simp) _).setCell (by simp) _).setCell (by simp) _).setCell (by simp) _).setCell (by simp) _
  have d : decide ((12 : Int) < (nr : Int)) = false := decide_eq_false (by omega)
  have K7 : Hid (Blk7 (w.alloc (.cells #[.int .i64 0, .int .i64 0, .int .i64 0, .int .i64 0, .int .i64 0, .int .i64 0, .slice none 0 0] 31)) w.heap.size (.int .i64 0) (.int .i64 0) (.int .i64 0) (.int .i64 0) (.int .i64 0) (.int .i64 0) (.slice none 0 0)) := Blk7.new w _ _ _ _ _ _ _ _
  go_enter Try.func11, Try.ntmps11
  go_wp2_with fail
  refine (withReads_is _ _ 0 0 n nr F R _ (H.out.alloc _) (HR.out.alloc _) hn h12).mono ?_
  rintro e w1 ⟨q', ao, cp, rfl, o1, q1⟩
  obtain rfl : q' = q := by have := o1.len; omega
  have O1 : Hid (OwnM w1 (w.heap.size + 1) 35 3 (.slice ao q' cp) q' (wR (nums F (n * 3)) R nr)) := by
    rw [World.size_alloc] at o1
    exact o1
  have Q1 : Hid (Below w.heap.size w w1) := (below_alloc _ _).trans (q1.mono (by simp))
  have KK : Hid (Blk7 w1 w.heap.size (.int .i64 0) (.int .i64 0) (.int .i64 0) (.int .i64 0) (.int .i64 0) (.int .i64 0) (.slice none 0 0)) := K7.out.later q1
  obtain ⟨LL, hLL⟩ : ∃ LL, wR (nums F (n * 3)) R nr = LL := ⟨_, rfl⟩
  rw [hLL] at O1 hf hq
  simp only [hLL] at ha
  obtain ⟨G, hG⟩ : ∃ G : Nat → Int, (fun p => LL.getD p 0) = G := ⟨_, rfl⟩
  have RW : Hid (Row w1 0 3 q' G (.slice ao q' cp)) := by
    have := O1.out.rowL.1
    rw [hG] at this
    exact this.mono (Nat.zero_le _)
  have HF : Hid (txnF s 0 u 1 0 q' G = c) := by rw [hG] at hf; exact hf
  clear hLL hG hf o1 q1 K7 hq
  go_wp2_with fail
  refine (implTxnFault_any s 0 u 1 0 q' G _ _ (RW.out.alloc _) O1.out.capOk).mono ?_
  rintro e w2 ⟨rfl, q2⟩
  rw [HF.out]
  have Q : Hid (Below w.heap.size w w2) := (Q1.out.alloc Q1.out.size _).trans (q2.mono (by have := Q1.out.size; simp; omega))
  obtain ⟨⟨j0, j1, j2, j3, j4, j5, j6⟩, f0, f1, f2, f3, f4, f5, f6⟩ := (KK.out.later (below_alloc _ _)).later q2
  have O2 : Hid (OwnM w2 (w.heap.size + 1) 35 3 (.slice ao q' cp) q' LL) := (O1.out.later (below_alloc _ _)).later q2
  obtain ⟨⟨k0, k1, k2, k3, k4, k5⟩, _⟩ := (Blk6.new w1 (.int .i64 s) (.int .i64 0) (.int .i64 u) (.int .i64 1) (.int .i64 0) (.slice ao q' cp) 29).later q2
  have hlt := World.block_lt_of_cell? w2 _ k0
  have hlj := World.block_lt_of_cell? w2 _ j0
  clear q2 KK O1 Q1 RW
  rcases ha with ⟨hc, rfl, rfl, rfl, rfl, rfl⟩ | ⟨rfl, rfl, rfl, rfl, rfl, rfl⟩
  · have dc : (c != 0) = true := bne_iff_ne.2 hc
    clear hc
    go_wp2
    refine bodyPost_ret (v := .agg #[.int .i64 c, .int .i64 0, .int .i64 0, .int .i64 0, .int .i64 0, .int .i64 0, .slice none 0 0]) (by simp [results, Try.results11, go_sem, j0, j1, j2, j3, j4, j5, j6]) rfl ⟨_, rfl, ?_, ?_⟩
    · exact OwnM.nil _ _ _ _
    · exact ((((((Q.out.setCell (by simp) _).setCell (by simp) _).setCell (by simp) _).setCell (by simp) _).setCell (by simp) _).setCell (by simp) _).setCell (by simp) _
  · go_wp2
    refine bodyPost_ret (v := .agg #[.int .i64 0, .int .i64 s', .int .i64 0, .int .i64 u', .int .i64 1, .int .i64 0, .slice ao m cp]) (by simp [results, Try.results11, go_sem, j0, j1, j2, j3, j4, j5, j6]) rfl ⟨_, rfl, ?_, ?_⟩
    · exact (((((((O2.out.far (by simp) _).far (by simp) _).far (by simp) _).far (by simp) _).far (by simp) _).far (by simp) _).far (by simp) _).monoB (by omega)
    · exact ((((((Q.out.setCell (by simp) _).setCell (by simp) _).setCell (by simp) _).setCell (by simp) _).setCell (by simp) _).setCell (by simp) _).setCell (by simp) _
theorem lt_c {x : World} {b o : Nat} {v : Value} (h : x.cell? ⟨b, o, none⟩ = some v) : b < x.heap.size := World.block_lt_of_cell? x _ h
/-- The model's transaction under way: the answer's block, its own, and its items behind j reads. -/
structure Way (w : World) (s u : Int) (g m : Nat) (v : Value) (L : List Int) (x : World) : Prop where
  below : Below w.heap.size w x
  k7 : Blk7 x w.heap.size (.int .i64 0) (.int .i64 0) (.int .i64 0) (.int .i64 0) (.int .i64 0) (.int .i64 0) (.slice none 0 0)
  k6 : Blk6 x g (.int .i64 s) (.int .i64 0) (.int .i64 u) (.int .i64 1) (.int .i64 0) v
  own : OwnM x (w.heap.size + 1) 35 3 v m L
  far : w.heap.size + 1 ≤ g
  off : ∀ k, v.ownBlock = some k → k ≠ g
theorem Way.later {w : World} {s u : Int} {g m : Nat} {v : Value} {L : List Int} {x x' : World} (h : Way w s u g m v L x) (hb : Below x.heap.size x x') : Way w s u g m v L x' :=
  ⟨h.below.trans (hb.mono h.below.size), h.k7.later hb, h.k6.later hb, h.own.later hb, h.far, h.off⟩
theorem Way.put {w : World} {s u : Int} {g m m' : Nat} {v v' : Value} {L L' : List Int} {x x' : World} (h : Way w s u g m v L x) (hg : x.grownBy x' v.ownBlock) (ho : OwnM x' (w.heap.size + 1) 35 3 v' m' L') (hl : v'.ownBlock = v.ownBlock ∨ v'.ownBlock = some x.heap.size) : Way w s u g m' v' L' (x'.setCell ⟨g, 5, none⟩ v') := by
  have hgl := h.k6.lt
  have h1 : x'.heap[g]? = x.heap[g]? := hg.block g hgl (fun e => h.off g e.symm rfl)
  have h2 : x'.heap[w.heap.size]? = x.heap[w.heap.size]? := hg.block _ h.k7.lt (fun e => by have := (h.own.block _ e.symm).1; omega)
  have hoff : ∀ k, v'.ownBlock = some k → k ≠ g := fun k hk => by
    rcases hl with e | e
    · exact h.off k (e ▸ hk)
    · rw [e] at hk
      simp only [Option.some.injEq] at hk
      omega
  refine ⟨?_, ?_, (h.k6.kept h1).set5 v', ?_, h.far, hoff⟩
  · exact (below_grownBy h.below h.below.size (fun b hb => by have := (h.own.block b hb).1; omega) hg).setCell (by simp; have := h.far; omega) _
  · exact (h.k7.kept h2).kept (Below.heap_setCell x' _ v' _ (by simp; have := h.far; omega))
  · exact ho.set hoff 5 v'
set_option maxRecDepth 100000 in
set_option maxHeartbeats 8000000 in
theorem specNewTxn_is (s u : Int) (yw yr : Value) (n nr : Nat) (F R : Nat → Int) (w : World) (hw : Row w 0 3 n F yw) (hr : Row w 0 1 nr R yr) (hn : n ≤ 1048576) (c s' u' st' : Int) (m : Nat) (L : List Int) (ha : NewT s u n F nr R c s' u' st' m L) :
    Calls Try.prog 12 #[.int .i64 s, .int .i64 u, yr, yw] w (ResT w c s' u' st' m L) := by
  obtain ⟨aw, cw, rfl⟩ := hw.form
  obtain ⟨ar, cr, rfl⟩ := hr.form
  have H : Hid (Row w 0 3 n F (.slice aw n cw)) := hw
  have HR : Hid (Row w 0 1 nr R (.slice ar nr cr)) := hr
  clear hw hr
  rcases ha with ⟨h12, rfl, rfl, rfl, rfl, rfl, rfl⟩ | ⟨h12, q, hq, hf, ha⟩
  · have d : decide ((12 : Int) < (nr : Int)) = true := decide_eq_true (by omega)
    clear h12
    go_enter Try.func12, Try.ntmps12
    go_wp2
    refine bodyPost_ret (v := .agg #[.int .i64 2, .int .i64 0, .int .i64 0, .int .i64 0, .int .i64 0, .int .i64 0, .slice none 0 0]) (by simp [results, Try.results12, go_sem]) rfl ⟨_, rfl, OwnM.nil _ _ _ _, ?_⟩
    first
      | exact below_alloc _ _
      | exact (((((((below_alloc w _).setCell (by simp) _).setCell (by simp) _).setCell (by simp) _).setCell (by simp) _).setCell (by simp) _).setCell (by simp) _).setCell (by simp) _
  have d : decide ((12 : Int) < (nr : Int)) = false := decide_eq_false (by omega)
  have K7 : Hid (Blk7 (w.alloc (.cells #[.int .i64 0, .int .i64 0, .int .i64 0, .int .i64 0, .int .i64 0, .int .i64 0, .slice none 0 0] 31)) w.heap.size (.int .i64 0) (.int .i64 0) (.int .i64 0) (.int .i64 0) (.int .i64 0) (.int .i64 0) (.slice none 0 0)) := Blk7.new w _ _ _ _ _ _ _ _
  obtain ⟨i0, hi, hz0, hz1, hz2⟩ := info_parts infoz_Item
  have HA : Hid ((c ≠ 0 ∧ s' = 0 ∧ u' = 0 ∧ st' = 0 ∧ m = 0 ∧ L = []) ∨ (c = 0 ∧ s' = s ∧ u' = u ∧ st' = 1 ∧ m = q ∧ L = wR (nums F (n * 3)) R nr)) := ha
  have HF : Hid (txnF s 0 u 1 0 q (fun p => (wR (nums F (n * 3)) R nr).getD p 0) = c) := hf
  have HQ : Hid ((wR (nums F (n * 3)) R nr).length = q * 3) := hq
  clear ha hf hq
  go_enter Try.func12, Try.ntmps12
  go_wp2_with (at_builtin; refine wpList_appX 35 i0 (.agg #[.int .i64 0, .int .i64 0, .int .i64 0]) 3 24 rfl _ _ 25 rfl Try.underlying25 hi hz0 hz1 hz2 rfl (by omega) (by omega) _ (w.heap.size + 1) 0 [] _ rfl (OwnM.lit0 _ _ _ _ (by simp)) 0 n F (.slice aw n cw) rfl ((H.out.alloc _).alloc _) (by omega) (by simp) ?_; intro ao1 cp1 w1 O1 G1 L1)
  have G1 : ((w.alloc (.cells #[.int .i64 0, .int .i64 0, .int .i64 0, .int .i64 0, .int .i64 0, .int .i64 0, .slice none 0 0] 31)).alloc (.cells #[] 35)).grownBy w1 (some (w.heap.size + 1)) := G1
  have hw1 : w.heap.size + 2 ≤ w1.heap.size := by have := G1.size; simp at this; omega
  have W1 : Hid (Way w s u w1.heap.size n (.slice ao1 (0 + n) cp1) (nums F (n * 3)) (w1.alloc (.cells #[.int .i64 s, .int .i64 0, .int .i64 u, .int .i64 1, .int .i64 0, .slice ao1 (0 + n) cp1] 29))) := by
    have O1' : OwnM w1 (w.heap.size + 1) 35 3 (.slice ao1 (0 + n) cp1) n (nums F (n * 3)) := by simpa using O1
    have hB : Below w.heap.size w w1 := below_grownBy (((below_alloc w _).alloc (by simp) _)) (by simp; omega) (fun b hb => by simp only [Option.some.injEq] at hb; omega) G1
    have h7 : w1.heap[w.heap.size]? = (w.alloc (.cells #[.int .i64 0, .int .i64 0, .int .i64 0, .int .i64 0, .int .i64 0, .int .i64 0, .slice none 0 0] 31)).heap[w.heap.size]? := by
      rw [G1.block w.heap.size (by simp; omega) (by simp)]
      exact Below.heap_alloc _ _ _ (by simp)
    refine ⟨hB.alloc hB.size _, (K7.out.kept h7).later (below_alloc _ _), Blk6.new w1 _ _ _ _ _ _ _, O1'.later (below_alloc _ _), by omega, fun k hk => ?_⟩
    have := (O1'.block k hk).2
    omega
  have hsz : 0 + n = n := Nat.zero_add n
  rw [hsz] at W1
  clear O1 G1 L1 K7 hw1
  go_loopw [10] (fun i wr => ∃ (j q : Nat) (ao : Option Addr) (cp : Nat), j ≤ nr ∧ i = .int .i64 j ∧ Hid (Way w s u w1.heap.size q (.slice ao q cp) (wR (nums F (n * 3)) R j) wr)) (fun i _ => nr - (intOf i).toNat)
  case atStart => exact ⟨0, n, ao1, cp1, Nat.zero_le _, rfl, W1⟩
  case round =>
    obtain ⟨j, p, ao, cp, hj, rfl, HW⟩ := hrel
    obtain ⟨⟨k0, k1, k2, k3, k4, k5⟩, f0, f1, f2, f3, f4, f5⟩ := HW.out.k6
    have hgl := HW.out.k6.lt
    by_cases hlt : j < nr
    case neg =>
      obtain rfl : nr = j := by omega
      obtain rfl : p = q := by have := HW.out.own.len; have := HQ.out; omega
      obtain ⟨LL, hLL⟩ : ∃ LL, wR (nums F (n * 3)) R nr = LL := ⟨_, rfl⟩
      have ha := HA.out
      have hf := HF.out
      rw [hLL] at HW hf
      simp only [hLL] at ha
      obtain ⟨G, hG⟩ : ∃ G : Nat → Int, (fun p => LL.getD p 0) = G := ⟨_, rfl⟩
      have RW : Hid (Row wr 0 3 p G (.slice ao p cp)) := by
        have := HW.out.own.rowL.1
        rw [hG] at this
        exact this.mono (Nat.zero_le _)
      have HF : Hid (txnF s 0 u 1 0 p G = c) := by rw [hG] at hf; exact hf
      have hp : p ≤ 9223372036854775807 := by
        have h1 := wR_le (nums F (n * 3)) R nr
        have h2 := HQ.out
        rw [nums_length] at h1
        omega
      clear hLL hG hf HA HQ W1
      go_wp2_with fail
      refine (l8Fault_any w1.heap.size s 0 u 1 0 p G _ _ ⟨HW.out.k6, RW.out, HW.out.own.capOk⟩ hp).mono ?_
      rintro e w2 ⟨rfl, q2⟩
      rw [HF.out]
      have W2 := HW.out.later q2
      have Q : Hid (Below w.heap.size w w2) := W2.below
      obtain ⟨⟨j0, j1, j2, j3, j4, j5, j6⟩, e0, e1, e2, e3, e4, e5, e6⟩ := W2.k7
      have O2 : Hid (OwnM w2 (w.heap.size + 1) 35 3 (.slice ao p cp) p LL) := W2.own
      obtain ⟨⟨k0, k1, k2, k3, k4, k5⟩, _⟩ := W2.k6
      have hlt := World.block_lt_of_cell? w2 _ k0
      have hlj := World.block_lt_of_cell? w2 _ j0
      clear q2 W2 HW RW f0 f1 f2 f3 f4 f5 hgl
      rcases ha with ⟨hc, rfl, rfl, rfl, rfl, rfl⟩ | ⟨rfl, rfl, rfl, rfl, rfl, rfl⟩
      · have dc : (c != 0) = true := bne_iff_ne.2 hc
        clear hc
        go_wp2
        refine bodyPost_ret (v := .agg #[.int .i64 c, .int .i64 0, .int .i64 0, .int .i64 0, .int .i64 0, .int .i64 0, .slice none 0 0]) (by simp [results, Try.results12, go_sem, j0, j1, j2, j3, j4, j5, j6]) rfl ⟨_, rfl, ?_, ?_⟩
        · exact OwnM.nil _ _ _ _
        · exact ((((((Q.out.setCell (by simp) _).setCell (by simp) _).setCell (by simp) _).setCell (by simp) _).setCell (by simp) _).setCell (by simp) _).setCell (by simp) _
      · go_wp2
        refine bodyPost_ret (v := .agg #[.int .i64 0, .int .i64 s', .int .i64 0, .int .i64 u', .int .i64 1, .int .i64 0, .slice ao m cp]) (by simp [results, Try.results12, go_sem, j0, j1, j2, j3, j4, j5, j6]) rfl ⟨_, rfl, ?_, ?_⟩
        · exact (((((((O2.out.far (by simp) _).far (by simp) _).far (by simp) _).far (by simp) _).far (by simp) _).far (by simp) _).far (by simp) _).monoB (by omega)
        · exact ((((((Q.out.setCell (by simp) _).setCell (by simp) _).setCell (by simp) _).setCell (by simp) _).setCell (by simp) _).setCell (by simp) _).setCell (by simp) _
    obtain ⟨gr, o, rfl, _, hgr, x0⟩ := HR.out.at1 hlt
    obtain ⟨n0, N0⟩ : ∃ x, R j = x := ⟨_, rfl⟩
    rw [N0] at x0
    have X0 : Hid (w.cell? ⟨gr, o + j, none⟩ = some (.int .i64 n0)) := x0
    have x0 := (HW.out.below.cell (p := ⟨gr, o + j, none⟩) hgr).trans x0
    have NN : Hid (R j = n0) := N0
    have HL : Hid ((wR (nums F (n * 3)) R j).length = p * 3) := HW.out.own.len
    have HM : p ≤ 1048588 := by
      have h1 := wR_le (nums F (n * 3)) R j
      have h2 := HL.out
      rw [nums_length] at h1
      omega
    obtain ⟨r, hr⟩ : ∃ r, hasI (fun p => (wR (nums F (n * 3)) R j).getD p 0) n0 p = r := ⟨_, rfl⟩
    have HH : Hid (hasI (fun p => (wR (nums F (n * 3)) R j).getD p 0) n0 p = r) := hr
    have HH' : Hid (hasI (fun p => (wR (nums F (n * 3)) R j).getD p 0) (R j) p = r) := by unfold Hid; rw [NN.out]; exact hr
    clear hr N0 W1 HA HF HQ
    have RK : Hid (∀ x, Row x (w.heap.size + 1) 3 p (fun p => (wR (nums F (n * 3)) R j).getD p 0) (.slice ao p cp) → Calls Try.prog 43 #[.slice ao p cp, .int .i64 n0] x fun e w' => e = .returned (.bool r) ∧ w' = x) := fun x hx => l8Has_is _ _ p _ n0 r HH.out x hx (by omega)
    have R1 : Hid (Row wr (w.heap.size + 1) 3 p (fun p => (wR (nums F (n * 3)) R j).getD p 0) (.slice ao p cp)) := HW.out.own.rowL.1
    cases r with
    | true =>
      have E : Hid (wR (nums F (n * 3)) R (j + 1) = wR (nums F (n * 3)) R j) := wR_has HL.out HH'.out
      go_wp2_with fail
      go_quiet (first | (go_at_call 43; refine Calls.quiet_of_same (RK.out _ R1.out)))
      have HW2 : Hid (∀ z, Way w s u w1.heap.size p (.slice ao p cp) (wR (nums F (n * 3)) R (j + 1)) (wr.drewN z)) := by
        intro z
        rw [E.out]
        exact HW.out.later (below_dt (Below.refl _ _) z)
      clear HW
      go_wp2
      go_roundw
      case rel => exact ⟨j + 1, p, ao, cp, by omega, by go_num, HW2.out _⟩
      case measure => simp [intOf]; omega
    | false =>
      have E : Hid (wR (nums F (n * 3)) R (j + 1) = wR (nums F (n * 3)) R j ++ [n0, 3, 0]) := by
        unfold Hid
        rw [wR_new HL.out HH'.out, NN.out]
      have HWY : Hid (∀ z, Way w s u w1.heap.size p (.slice ao p cp) (wR (nums F (n * 3)) R j) (wr.drewN z)) := fun z => HW.out.later (below_dt (Below.refl _ _) z)
      go_wp2_with fail
      go_quiet (first | (go_at_call 43; refine Calls.quiet_of_same (RK.out _ R1.out)))
      have HWq := HWY.out nq
      clear k0 k1 k2 k3 k4 k5 f0 f1 f2 f3 f4 f5 HW RK R1 x0 HL HH HH' HWY
      generalize wr.drewN nq = Y at HWq ⊢
      have HWD : Hid (Way w s u w1.heap.size p (.slice ao p cp) (wR (nums F (n * 3)) R j) Y.drew) := HWq.later (below_dt (Below.refl _ _) 1)
      have HWA : Hid (Way w s u w1.heap.size p (.slice ao p cp) (wR (nums F (n * 3)) R j) (Y.drew.alloc (.cells #[.int .i64 n0, .int .i64 3, .int .i64 0] 35))) := HWD.out.later (below_alloc _ _)
      have F5 : Y.drew.cell? ⟨w1.heap.size, 5, none⟩ = some (.slice ao p cp) := HWD.out.k6.1.2.2.2.2.2
      have F6 : (Y.drew.alloc (.cells #[.int .i64 n0, .int .i64 3, .int .i64 0] 35)).cell? ⟨w1.heap.size, 5, none⟩ = some (.slice ao p cp) := HWA.out.k6.1.2.2.2.2.2
      have F7 : (Y.alloc (.cells #[.int .i64 n0, .int .i64 3, .int .i64 0] 35)).cell? ⟨w1.heap.size, 5, none⟩ = some (.slice ao p cp) := F6
      have SA : Hid ((Y.drew.alloc (.cells #[.int .i64 n0, .int .i64 3, .int .i64 0] 35)).cell? ⟨gr, o + j, none⟩ = some (.int .i64 n0) ∧ Below w.heap.size w (Y.drew.alloc (.cells #[.int .i64 n0, .int .i64 3, .int .i64 0] 35))) := ⟨(HWA.out.below.cell (p := ⟨gr, o + j, none⟩) hgr).trans X0.out, HWA.out.below⟩
      have hbs : w.heap.size + 1 ≤ (Y.drew.alloc (.cells #[.int .i64 n0, .int .i64 3, .int .i64 0] 35)).heap.size := by have := HWA.out.k7.lt; omega
      clear HWq
      go_wp2_with fail
      refine wp_region_held_drew (S := fun x : World => x.cell? ⟨gr, o + j, none⟩ = some (.int .i64 n0) ∧ Below w.heap.size w x) (by kernel_rfl) ⟨(HWD.out.below.cell (p := ⟨gr, o + j, none⟩) hgr).trans X0.out, HWD.out.below⟩ (fun hS => ?_)
      refine wpAnyH_take (i := 0) (v := ?_) rfl (by kernel_rfl) (by kernel_rfl) (by kernel_rfl) (fun _ _ _ h => h) (Or.inl ⟨by kernel_rfl, ?_⟩) hS ?_
      rotate_left
      · intro wx hx
        have hx0 := hx.1
        go_simp
        try with_reducible rfl
      refine wpAnyH_take (i := 2) (v := ?_) rfl (by kernel_rfl) (by kernel_rfl) (by kernel_rfl) (fun _ _ _ h => h) (Or.inl ⟨by kernel_rfl, ?_⟩) hS ?_
      rotate_left
      · intro wx hx
        have hx0 := hx.1
        go_simp
        try with_reducible rfl
      refine wpAnyH_take (i := 3) (v := ?_) rfl (by kernel_rfl) (by kernel_rfl) (by kernel_rfl) (fun _ _ _ h => h) (Or.inl ⟨by kernel_rfl, ?_⟩) hS ?_
      rotate_left
      · intro wx hx
        have hx0 := hx.1
        go_simp
        try with_reducible rfl
      refine wpAnyH_take (i := 4) (v := ?_) rfl (by kernel_rfl) (by kernel_rfl) (by kernel_rfl) (fun _ _ _ h => h) (Or.inl ⟨by kernel_rfl, ?_⟩) hS ?_
      rotate_left
      · intro wx hx
        have hx0 := hx.1
        go_simp
        try with_reducible rfl
      refine wpAnyH_take (i := 5) (v := ?_) rfl (by kernel_rfl) (by kernel_rfl) (by kernel_rfl) (fun _ _ _ h => h) (Or.inl ⟨by kernel_rfl, ?_⟩) hS ?_
      rotate_left
      · intro wx hx
        have hx0 := hx.1
        go_simp
        try with_reducible rfl
      refine wpAnyH_take (i := 6) (v := ?_) rfl (by kernel_rfl) (by kernel_rfl) (by kernel_rfl) (fun _ _ _ h => h) (Or.inl ⟨by kernel_rfl, ?_⟩) hS ?_
      rotate_left
      · intro wx hx
        have hx0 := hx.1
        go_simp
        try with_reducible rfl
      refine wpAnyH_ready (rs := [1, 7]) (by kernel_rfl) (by simp) ?_
      refine AllReadyH.cons rfl (fun K hK => ?_) (AllReadyH.cons rfl (fun K hK => ?_) AllReadyH.nil)
      · go_simp
        refine hK.out _ _ hS (fun hS => ?_)
        clear hK K
        refine wpAnyH_ready (rs := [7]) (by kernel_rfl) (by simp) ?_
        refine AllReadyH.cons rfl (fun K hK => ?_) AllReadyH.nil
        go_simp
        refine hK.out _ _ SA.out (fun hS => ?_)
        clear hK K
        refine wpAnyH_ready (rs := [8]) (by kernel_rfl) (by simp) ?_
        refine AllReadyH.cons rfl (fun K hK => ?_) AllReadyH.nil
        refine step_appX 35 i0 (.agg #[.int .i64 0, .int .i64 0, .int .i64 0]) 3 24 (by rfl) _ _ 25 (by rfl) Try.underlying25 hi hz0 hz1 hz2 rfl (by omega) (by omega) _ (w.heap.size + 1) p (wR (nums F (n * 3)) R j) (.slice ao p cp) (by rfl) HWA.out.own 0 1 (fun p => [n0, 3, 0].getD p 0) (.slice (some ⟨Y.heap.size, 0, none⟩) 1 1) (by rfl) (row_litT _ n0 3 0 _ _ (by rfl)) (by omega) hbs ?_
        intro ao2 cp2 w5 O5 G5 L5
        have OO : OwnM w5 (w.heap.size + 1) 35 3 (.slice ao2 (p + 1) cp2) (p + 1) (wR (nums F (n * 3)) R (j + 1)) := by
          rw [E.out]
          exact O5
        have W5 := HWA.out.put G5 OO L5
        have HW5 : Hid (Way w s u w1.heap.size (p + 1) (.slice ao2 (p + 1) cp2) (wR (nums F (n * 3)) R (j + 1)) (w5.setCell ⟨w1.heap.size, 5, none⟩ (.slice ao2 (p + 1) cp2))) := W5
        have hB5 : Below w.heap.size w w5 := grown_below HWA.out.below G5 (fun b hb => by have := (HWA.out.own.block b hb).1; omega)
        have hk6 := HWA.out.k6.kept (G5.block w1.heap.size HWA.out.k6.lt (fun e => HWA.out.off _ e.symm rfl))
        obtain ⟨⟨_, _, _, _, _, c5⟩, _, _, _, _, _, g5⟩ := hk6
        refine hK.out _ _ ⟨(hB5.cell (p := ⟨gr, o + j, none⟩) hgr).trans X0.out, hB5⟩ (fun hS => ?_)
        clear hK K
        refine wpAnyH_take (i := 9) (v := ?_) rfl (by kernel_rfl) (by kernel_rfl) (by kernel_rfl) (fun _ _ _ h => h) (Or.inl ⟨by kernel_rfl, ?_⟩) hS ?_
        rotate_left
        · intro wx hx
          have hx0 := hx.1
          go_simp
          try with_reducible rfl
        refine wpAnyH_ready (rs := [10]) (by kernel_rfl) (by simp) ?_
        refine AllReadyH.cons rfl (fun K hK => ?_) AllReadyH.nil
        go_simp
        refine hK.out _ _ ⟨(HW5.out.below.cell (p := ⟨gr, o + j, none⟩) hgr).trans X0.out, HW5.out.below⟩ (fun hS => ?_)
        clear hK K
        refine wpAnyH_done (by kernel_rfl) ?_ _
        clear W5 OO O5 G5 L5 c5 g5 hB5 HWD HWA F5 F6 F7 SA
        go_simp
        go_wp2
        go_roundw
        case rel => exact ⟨j + 1, p + 1, ao2, cp2, by omega, by go_num, HW5⟩
        case measure => simp [intOf]; omega
      · go_simp
        refine hK.out _ _ SA.out (fun hS => ?_)
        clear hK K
        refine wpAnyH_ready (rs := [1]) (by kernel_rfl) (by simp) ?_
        refine AllReadyH.cons rfl (fun K hK => ?_) AllReadyH.nil
        go_simp
        refine hK.out _ _ hS (fun hS => ?_)
        clear hK K
        refine wpAnyH_ready (rs := [8]) (by kernel_rfl) (by simp) ?_
        refine AllReadyH.cons rfl (fun K hK => ?_) AllReadyH.nil
        refine step_appX 35 i0 (.agg #[.int .i64 0, .int .i64 0, .int .i64 0]) 3 24 (by rfl) _ _ 25 (by rfl) Try.underlying25 hi hz0 hz1 hz2 rfl (by omega) (by omega) _ (w.heap.size + 1) p (wR (nums F (n * 3)) R j) (.slice ao p cp) (by rfl) HWA.out.own 0 1 (fun p => [n0, 3, 0].getD p 0) (.slice (some ⟨Y.heap.size, 0, none⟩) 1 1) (by rfl) (row_litT _ n0 3 0 _ _ (by rfl)) (by omega) hbs ?_
        intro ao2 cp2 w5 O5 G5 L5
        have OO : OwnM w5 (w.heap.size + 1) 35 3 (.slice ao2 (p + 1) cp2) (p + 1) (wR (nums F (n * 3)) R (j + 1)) := by
          rw [E.out]
          exact O5
        have W5 := HWA.out.put G5 OO L5
        have HW5 : Hid (Way w s u w1.heap.size (p + 1) (.slice ao2 (p + 1) cp2) (wR (nums F (n * 3)) R (j + 1)) (w5.setCell ⟨w1.heap.size, 5, none⟩ (.slice ao2 (p + 1) cp2))) := W5
        have hB5 : Below w.heap.size w w5 := grown_below HWA.out.below G5 (fun b hb => by have := (HWA.out.own.block b hb).1; omega)
        have hk6 := HWA.out.k6.kept (G5.block w1.heap.size HWA.out.k6.lt (fun e => HWA.out.off _ e.symm rfl))
        obtain ⟨⟨_, _, _, _, _, c5⟩, _, _, _, _, _, g5⟩ := hk6
        refine hK.out _ _ ⟨(hB5.cell (p := ⟨gr, o + j, none⟩) hgr).trans X0.out, hB5⟩ (fun hS => ?_)
        clear hK K
        refine wpAnyH_take (i := 9) (v := ?_) rfl (by kernel_rfl) (by kernel_rfl) (by kernel_rfl) (fun _ _ _ h => h) (Or.inl ⟨by kernel_rfl, ?_⟩) hS ?_
        rotate_left
        · intro wx hx
          have hx0 := hx.1
          go_simp
          try with_reducible rfl
        refine wpAnyH_ready (rs := [10]) (by kernel_rfl) (by simp) ?_
        refine AllReadyH.cons rfl (fun K hK => ?_) AllReadyH.nil
        go_simp
        refine hK.out _ _ ⟨(HW5.out.below.cell (p := ⟨gr, o + j, none⟩) hgr).trans X0.out, HW5.out.below⟩ (fun hS => ?_)
        clear hK K
        refine wpAnyH_done (by kernel_rfl) ?_ _
        clear W5 OO O5 G5 L5 c5 g5 hB5 HWD HWA F5 F6 F7 SA
        go_simp
        go_wp2
        go_roundw
        case rel => exact ⟨j + 1, p + 1, ao2, cp2, by omega, by go_num, HW5⟩
        case measure => simp [intOf]; omega
end Go.Proofs.Ytjimckfkbkfggaa
