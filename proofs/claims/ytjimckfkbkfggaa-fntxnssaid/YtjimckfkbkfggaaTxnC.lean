/-
  Own text. Chapter 8, the model: l8Fault at a transaction that lies in memory, and TxnFault.
-/
import Derived.Test.YtjimckfkbkfggaaTxnB
namespace Go.Proofs.Ytjimckfkbkfggaa
open Go.RowKit

/-- Block b holds six cells, none frozen. -/
def Blk6 (x : World) (b : Nat) (a0 a1 a2 a3 a4 a5 : Value) : Prop :=
  (x.cell? ⟨b, 0, none⟩ = some a0 ∧ x.cell? ⟨b, 1, none⟩ = some a1 ∧ x.cell? ⟨b, 2, none⟩ = some a2 ∧ x.cell? ⟨b, 3, none⟩ = some a3 ∧ x.cell? ⟨b, 4, none⟩ = some a4 ∧ x.cell? ⟨b, 5, none⟩ = some a5) ∧
    x.frozen? ⟨b, 0, none⟩ = false ∧ x.frozen? ⟨b, 1, none⟩ = false ∧ x.frozen? ⟨b, 2, none⟩ = false ∧ x.frozen? ⟨b, 3, none⟩ = false ∧ x.frozen? ⟨b, 4, none⟩ = false ∧ x.frozen? ⟨b, 5, none⟩ = false
theorem Blk6.kept {x x' : World} {b : Nat} {a0 a1 a2 a3 a4 a5 : Value} (h : Blk6 x b a0 a1 a2 a3 a4 a5) (hb : x'.heap[b]? = x.heap[b]?) : Blk6 x' b a0 a1 a2 a3 a4 a5 := by
  obtain ⟨⟨h0, h1, h2, h3, h4, h5⟩, f0, f1, f2, f3, f4, f5⟩ := h
  exact ⟨⟨(World.cell?_of_block (w := x) (a := ⟨b, 0, none⟩) hb).trans h0, (World.cell?_of_block (w := x) (a := ⟨b, 1, none⟩) hb).trans h1, (World.cell?_of_block (w := x) (a := ⟨b, 2, none⟩) hb).trans h2, (World.cell?_of_block (w := x) (a := ⟨b, 3, none⟩) hb).trans h3, (World.cell?_of_block (w := x) (a := ⟨b, 4, none⟩) hb).trans h4, (World.cell?_of_block (w := x) (a := ⟨b, 5, none⟩) hb).trans h5⟩,
    (World.frozen?_of_block (w := x) (a := ⟨b, 0, none⟩) hb).trans f0, (World.frozen?_of_block (w := x) (a := ⟨b, 1, none⟩) hb).trans f1, (World.frozen?_of_block (w := x) (a := ⟨b, 2, none⟩) hb).trans f2, (World.frozen?_of_block (w := x) (a := ⟨b, 3, none⟩) hb).trans f3, (World.frozen?_of_block (w := x) (a := ⟨b, 4, none⟩) hb).trans f4, (World.frozen?_of_block (w := x) (a := ⟨b, 5, none⟩) hb).trans f5⟩
theorem Blk6.lt {x : World} {b : Nat} {a0 a1 a2 a3 a4 a5 : Value} (h : Blk6 x b a0 a1 a2 a3 a4 a5) : b < x.heap.size := World.block_lt_of_cell? x _ h.1.1
theorem Blk6.later {x x' : World} {b : Nat} {a0 a1 a2 a3 a4 a5 : Value} (h : Blk6 x b a0 a1 a2 a3 a4 a5) (hb : Below x.heap.size x x') : Blk6 x' b a0 a1 a2 a3 a4 a5 := h.kept (hb.block b h.lt)
theorem Blk6.alloc {x : World} {b : Nat} {a0 a1 a2 a3 a4 a5 : Value} (h : Blk6 x b a0 a1 a2 a3 a4 a5) (o : Obj) : Blk6 (x.alloc o) b a0 a1 a2 a3 a4 a5 := h.later ((Below.refl _ _).alloc (Nat.le_refl _) o)
theorem Blk6.new (w : World) (a0 a1 a2 a3 a4 a5 : Value) (t : TypeId) : Blk6 (w.alloc (.cells #[a0, a1, a2, a3, a4, a5] t)) w.heap.size a0 a1 a2 a3 a4 a5 := by
  refine ⟨⟨World.cell?_alloc_mark w _ _ _ 0, World.cell?_alloc_mark w _ _ _ 1, World.cell?_alloc_mark w _ _ _ 2, World.cell?_alloc_mark w _ _ _ 3, World.cell?_alloc_mark w _ _ _ 4, World.cell?_alloc_mark w _ _ _ 5⟩, ?_, ?_, ?_, ?_, ?_, ?_⟩ <;> simp
theorem Blk6.set5 {x : World} {b : Nat} {a0 a1 a2 a3 a4 a5 : Value} (h : Blk6 x b a0 a1 a2 a3 a4 a5) (u : Value) : Blk6 (x.setCell ⟨b, 5, none⟩ u) b a0 a1 a2 a3 a4 u := by
  obtain ⟨⟨h0, h1, h2, h3, h4, h5⟩, f0, f1, f2, f3, f4, f5⟩ := h
  refine ⟨⟨?_, ?_, ?_, ?_, ?_, World.cell?_setCell_same _ _ _ h5⟩, ?_, ?_, ?_, ?_, ?_, ?_⟩
  · exact (World.cell?_setCell_other _ _ _ _ (by simp)).trans h0
  · exact (World.cell?_setCell_other _ _ _ _ (by simp)).trans h1
  · exact (World.cell?_setCell_other _ _ _ _ (by simp)).trans h2
  · exact (World.cell?_setCell_other _ _ _ _ (by simp)).trans h3
  · exact (World.cell?_setCell_other _ _ _ _ (by simp)).trans h4
  all_goals rw [World.frozen?_setCell]; assumption
theorem below_dt {B : Nat} {a w : World} (h : Below B a w) (q : Nat) : Below B a (w.drewN q) := ⟨h.os, h.tape, h.output, h.size, h.block⟩
/-- A slice is no longer than its room. -/
def CapOk (y : Value) : Prop := ∀ ao n cp, y = .slice ao n cp → n ≤ cp
/-- A transaction that lies in block b. -/
def LiesT (w : World) (b : Nat) (s c u st a : Int) (n : Nat) (F : Nat → Int) (y : Value) : Prop := Blk6 w b (.int .i64 s) (.int .i64 c) (.int .i64 u) (.int .i64 st) (.int .i64 a) y ∧ Row w 0 3 n F y ∧ CapOk y
theorem LiesT.later {w x : World} {b : Nat} {s c u st a : Int} {n : Nat} {F : Nat → Int} {y : Value} (h : LiesT w b s c u st a n F y) (hb : Below w.heap.size w x) : LiesT x b s c u st a n F y := ⟨h.1.later hb, h.2.1.later hb, h.2.2⟩

set_option maxRecDepth 100000 in
set_option maxHeartbeats 4000000 in
theorem l8Fault_any (b : Nat) (s c u st a : Int) (n : Nat) (F : Nat → Int) (y : Value) (w : World) (h : LiesT w b s c u st a n F y) (hn : n ≤ 9223372036854775807) :
    Calls Try.prog 44 #[.pointer (some ⟨b, 0, none⟩)] w fun e w' => e = .returned (.int .i64 (txnF s c u st a n F)) ∧ Below w.heap.size w w' := by
  obtain ⟨ao, cp, rfl⟩ := h.2.1.form
  have hcp : n ≤ cp := h.2.2 _ _ _ rfl
  have H : Hid (LiesT w b s c u st a n F (.slice ao n cp)) := h
  obtain ⟨⟨⟨p0, p1, p2, p3, p4, p5⟩, _⟩, _⟩ := h
  by_cases h0 : 1 ≤ s ∧ s ≤ 100000
  case neg =>
    have D0 : Hid (decide (1 ≤ s ∧ s ≤ 100000) = false) := decide_eq_false h0
    have E : Hid (txnF s c u st a n F = 3) := txnF_range (Or.inl h0)
    clear h0
    go_enter Try.func44, Try.ntmps44
    go_wp2_with fail
    refine (tsT_is _ _ D0.out _).mono ?_
    rintro e w9 ⟨rfl, hw9⟩
    obtain rfl := hw9.symm
    go_wp2
    go_ret
    exact ⟨by rw [E.out]; rfl, Below.refl _ _⟩
  have D0 : Hid (decide (1 ≤ s ∧ s ≤ 100000) = true) := decide_eq_true h0
  by_cases h1 : 0 ≤ c ∧ c ≤ 100000
  case neg =>
    have D1 : Hid (decide (0 ≤ c ∧ c ≤ 100000) = false) := decide_eq_false h1
    have E : Hid (txnF s c u st a n F = 3) := txnF_range (Or.inr (Or.inl h1))
    clear h0 h1
    go_enter Try.func44, Try.ntmps44
    go_wp2_with fail
    refine (tsT_is _ _ D0.out _).mono ?_
    rintro e w9 ⟨rfl, hw9⟩
    obtain rfl := hw9.symm
    go_wp2_with fail
    refine (inT_is _ _ _ _ D1.out _).mono ?_
    rintro e w9 ⟨rfl, hw9⟩
    obtain rfl := hw9.symm
    go_wp2
    go_ret
    exact ⟨by rw [E.out]; rfl, Below.refl _ _⟩
  have D1 : Hid (decide (0 ≤ c ∧ c ≤ 100000) = true) := decide_eq_true h1
  by_cases h2 : 0 ≤ u ∧ u ≤ 100000
  case neg =>
    have D2 : Hid (decide (0 ≤ u ∧ u ≤ 100000) = false) := decide_eq_false h2
    have E : Hid (txnF s c u st a n F = 3) := txnF_range (Or.inr (Or.inr (Or.inl h2)))
    clear h0 h1 h2
    go_enter Try.func44, Try.ntmps44
    go_wp2_with fail
    refine (tsT_is _ _ D0.out _).mono ?_
    rintro e w9 ⟨rfl, hw9⟩
    obtain rfl := hw9.symm
    go_wp2_with fail
    refine (inT_is _ _ _ _ D1.out _).mono ?_
    rintro e w9 ⟨rfl, hw9⟩
    obtain rfl := hw9.symm
    go_wp2_with fail
    refine (inT_is _ _ _ _ D2.out _).mono ?_
    rintro e w9 ⟨rfl, hw9⟩
    obtain rfl := hw9.symm
    go_wp2
    go_ret
    exact ⟨by rw [E.out]; rfl, Below.refl _ _⟩
  have D2 : Hid (decide (0 ≤ u ∧ u ≤ 100000) = true) := decide_eq_true h2
  by_cases h3 : 1 ≤ st ∧ st ≤ 7
  case neg =>
    have D3 : Hid (decide (1 ≤ st ∧ st ≤ 7) = false) := decide_eq_false h3
    have E : Hid (txnF s c u st a n F = 3) := txnF_range (Or.inr (Or.inr (Or.inr h3)))
    clear h0 h1 h2 h3
    go_enter Try.func44, Try.ntmps44
    go_wp2_with fail
    refine (tsT_is _ _ D0.out _).mono ?_
    rintro e w9 ⟨rfl, hw9⟩
    obtain rfl := hw9.symm
    go_wp2_with fail
    refine (inT_is _ _ _ _ D1.out _).mono ?_
    rintro e w9 ⟨rfl, hw9⟩
    obtain rfl := hw9.symm
    go_wp2_with fail
    refine (inT_is _ _ _ _ D2.out _).mono ?_
    rintro e w9 ⟨rfl, hw9⟩
    obtain rfl := hw9.symm
    go_wp2_with fail
    refine (inT_is _ _ _ _ D3.out _).mono ?_
    rintro e w9 ⟨rfl, hw9⟩
    obtain rfl := hw9.symm
    go_wp2
    go_ret
    exact ⟨by rw [E.out]; rfl, Below.refl _ _⟩
  have D3 : Hid (decide (1 ≤ st ∧ st ≤ 7) = true) := decide_eq_true h3
  have HI : Hid (InB s c u st) := ⟨h0, h1, h2, h3⟩
  clear h0 h1 h2 h3
  by_cases hm : n < 1 ∨ 12 < n
  · have D4 : Hid (decide (1 ≤ (n : Int) ∧ (n : Int) ≤ 12) = false) := decide_eq_false (by omega)
    have E : Hid (txnF s c u st a n F = 2) := txnF_many HI.out hm
    clear hm
    go_enter Try.func44, Try.ntmps44
    go_wp2_with fail
    refine (tsT_is _ _ D0.out _).mono ?_
    rintro e w9 ⟨rfl, hw9⟩
    obtain rfl := hw9.symm
    go_wp2_with fail
    refine (inT_is _ _ _ _ D1.out _).mono ?_
    rintro e w9 ⟨rfl, hw9⟩
    obtain rfl := hw9.symm
    go_wp2_with fail
    refine (inT_is _ _ _ _ D2.out _).mono ?_
    rintro e w9 ⟨rfl, hw9⟩
    obtain rfl := hw9.symm
    go_wp2_with fail
    refine (inT_is _ _ _ _ D3.out _).mono ?_
    rintro e w9 ⟨rfl, hw9⟩
    obtain rfl := hw9.symm
    go_wp2_with fail
    refine (inT_is _ _ _ _ D4.out _).mono ?_
    rintro e w9 ⟨rfl, hw9⟩
    obtain rfl := hw9.symm
    go_wp2
    go_ret
    exact ⟨by rw [E.out]; rfl, Below.refl _ _⟩
  have D4 : Hid (decide (1 ≤ (n : Int) ∧ (n : Int) ≤ 12) = true) := decide_eq_true (by omega)
  have HM : Hid (¬ (n < 1 ∨ 12 < n)) := hm
  have hn1 : 1 ≤ n := by omega
  have hn12 : n ≤ 12 := by omega
  clear hm hn
  go_enter Try.func44, Try.ntmps44
  go_wp2_with fail
  refine (tsT_is _ _ D0.out _).mono ?_
  rintro e w9 ⟨rfl, hw9⟩
  obtain rfl := hw9.symm
  go_wp2_with fail
  refine (inT_is _ _ _ _ D1.out _).mono ?_
  rintro e w9 ⟨rfl, hw9⟩
  obtain rfl := hw9.symm
  go_wp2_with fail
  refine (inT_is _ _ _ _ D2.out _).mono ?_
  rintro e w9 ⟨rfl, hw9⟩
  obtain rfl := hw9.symm
  go_wp2_with fail
  refine (inT_is _ _ _ _ D3.out _).mono ?_
  rintro e w9 ⟨rfl, hw9⟩
  obtain rfl := hw9.symm
  go_wp2_with fail
  refine (inT_is _ _ _ _ D4.out _).mono ?_
  rintro e w9 ⟨rfl, hw9⟩
  obtain rfl := hw9.symm
  obtain ⟨f, hf⟩ : ∃ f, itemsF F n 0 = f := ⟨_, rfl⟩
  have HF : Hid (itemsF F n 0 = f) := hf
  clear hf D0 D1 D2 D3 D4
  go_wp2
  go_loopw [4] (fun i wr => ∃ k : Nat, k ≤ n ∧ i = .int .i64 k ∧ Hid (itemsF F (n - k) k = f) ∧ Hid (Below w.heap.size w wr)) (fun i _ => n - (intOf i).toNat)
  case atStart => exact ⟨0, Nat.zero_le _, rfl, HF, Below.refl _ _⟩
  case round =>
    obtain ⟨k, hk, rfl, HS, HB⟩ := hrel
    obtain ⟨⟨⟨p0, p1, p2, p3, p4, p5⟩, _⟩, hrow, _⟩ := H.out.later HB.out
    by_cases hlt : k < n
    case neg =>
      have en : n - k = 0 := by omega
      have E0 : Hid (itemsF F n 0 = 0) := by
        have := HS.out
        rw [en, itemsF] at this
        rw [HF.out, this]; exact rfl
      clear HS HF
      by_cases h4 : 0 ≤ a ∧ a ≤ n
      case neg =>
        have D5 : Hid (decide (0 ≤ a ∧ a ≤ (n : Int)) = false) := decide_eq_false h4
        have E : Hid (txnF s c u st a n F = 3) := txnF_at HI.out HM.out E0.out h4
        clear h4 en
        go_wp2_with fail
        refine (inT_is _ _ _ _ D5.out _).mono ?_
        rintro e w9 ⟨rfl, hw9⟩
        obtain rfl := hw9.symm
        go_wp2
        go_ret
        exact ⟨by rw [E.out]; rfl, HB.out⟩
      have D5 : Hid (decide (0 ≤ a ∧ a ≤ (n : Int)) = true) := decide_eq_true h4
      have HA : Hid (0 ≤ a ∧ a ≤ n) := h4
      clear h4 en
      obtain ⟨_, _, _, hst1, hst7⟩ := HI.out
      have h7 : st = 1 ∨ st = 2 ∨ st = 3 ∨ st = 4 ∨ st = 5 ∨ st = 6 ∨ st = 7 := by omega
      clear hst1 hst7
      rcases h7 with rfl | h7
      · by_cases hc : c = 0
        · have E : Hid (txnF s c u 1 a n F = 0) := txnF_ok HI.out HM.out E0.out HA.out (by omega)
          subst hc
          go_wp2_with fail
          refine (inT_is _ _ _ _ D5.out _).mono ?_
          rintro e w9 ⟨rfl, hw9⟩
          obtain rfl := hw9.symm
          go_wp2_with fail
          go_quiet (fail)
          go_wp2
          go_ret
          exact ⟨by rw [E.out]; rfl, below_dt HB.out _⟩
        · have E : Hid (txnF s c u 1 a n F = 1) := txnF_form HI.out HM.out E0.out HA.out (Or.inr ⟨rfl, hc⟩)
          have d : (c != 0) = true := bne_iff_ne.2 hc
          clear hc
          go_wp2_with fail
          refine (inT_is _ _ _ _ D5.out _).mono ?_
          rintro e w9 ⟨rfl, hw9⟩
          obtain rfl := hw9.symm
          go_wp2_with fail
          go_quiet (fail)
          go_wp2
          go_ret
          exact ⟨by rw [E.out]; rfl, below_dt HB.out _⟩
      have hc : c ≤ s ∨ s < c := by omega
      rcases h7 with rfl | rfl | rfl | h7
      iterate 3
        rcases hc with hc | hc
        · have E := (show Hid (txnF s c u _ a n F = 1) from txnF_form HI.out HM.out E0.out HA.out (Or.inl ⟨by omega, hc⟩))
          have d : decide (c ≤ s) = true := decide_eq_true hc
          clear hc
          go_wp2_with fail
          refine (inT_is _ _ _ _ D5.out _).mono ?_
          rintro e w9 ⟨rfl, hw9⟩
          obtain rfl := hw9.symm
          go_wp2_with fail
          go_quiet (fail)
          go_wp2
          go_ret
          exact ⟨by rw [E.out]; rfl, below_dt HB.out _⟩
        · have E := (show Hid (txnF s c u _ a n F = 0) from txnF_ok HI.out HM.out E0.out HA.out (by omega))
          have d : decide (c ≤ s) = false := decide_eq_false (by omega)
          clear hc
          go_wp2_with fail
          refine (inT_is _ _ _ _ D5.out _).mono ?_
          rintro e w9 ⟨rfl, hw9⟩
          obtain rfl := hw9.symm
          go_wp2_with fail
          go_quiet (fail)
          go_wp2
          go_ret
          exact ⟨by rw [E.out]; rfl, below_dt HB.out _⟩
      have E : Hid (txnF s c u st a n F = 0) := txnF_ok HI.out HM.out E0.out HA.out (by omega)
      clear hc
      rcases h7 with rfl | rfl | rfl
      iterate 3
        · go_wp2_with fail
          refine (inT_is _ _ _ _ D5.out _).mono ?_
          rintro e w9 ⟨rfl, hw9⟩
          obtain rfl := hw9.symm
          go_wp2_with fail
          go_quiet (fail)
          go_wp2
          go_ret
          exact ⟨by rw [E.out]; rfl, below_dt HB.out _⟩
    obtain ⟨g, o, rfl, _, hg, x0, x1, x2⟩ := hrow.at3 hlt
    have hm : Hid (0 < n - k ∧ n - k - 1 = n - (k + 1)) := ⟨by omega, by omega⟩
    obtain ⟨n0, N0⟩ : ∃ x, F (k * 3) = x := ⟨_, rfl⟩
    rw [N0] at x0
    obtain ⟨n1, N1⟩ : ∃ x, F (k * 3 + 1) = x := ⟨_, rfl⟩
    rw [N1] at x1
    obtain ⟨n2, N2⟩ : ∃ x, F (k * 3 + 2) = x := ⟨_, rfl⟩
    rw [N2] at x2
    have NN : Hid (F (k * 3) = n0 ∧ F (k * 3 + 1) = n1 ∧ F (k * 3 + 2) = n2) := ⟨N0, N1, N2⟩
    clear N0 N1 N2
    obtain ⟨q, hq⟩ : ∃ q, itemF n0 n1 n2 = q := ⟨_, rfl⟩
    have HQ : Hid (itemF n0 n1 n2 = q) := hq
    have HQ' : Hid (itemF (F (k * 3)) (F (k * 3 + 1)) (F (k * 3 + 2)) = q) := by
      unfold Hid
      rw [NN.out.1, NN.out.2.1, NN.out.2.2]; exact hq
    clear hq
    by_cases h5 : q = 0
    case neg =>
      have E0 := HS.out
      rw [itemsF_bad hm.out.1 HQ'.out h5] at E0
      have E : Hid (txnF s c u st a n F = q) := txnF_item HI.out HM.out (HF.out.trans E0.symm) h5
      have d : (q != 0) = true := bne_iff_ne.2 h5
      clear h5 HS E0 HF HQ'
      go_wp2_with fail
      refine (l8Item_is _ _ _ _).mono ?_
      rintro e w1 ⟨rfl, q1⟩
      rw [HQ.out]
      have HB : Hid (Below w.heap.size w w1) := HB.out.trans (q1.mono HB.out.size)
      clear q1
      go_wp2
      go_ret
      exact ⟨by rw [E.out]; rfl, HB.out⟩
    subst h5
    obtain ⟨r, hr⟩ : ∃ r, hasI F n0 k = r := ⟨_, rfl⟩
    have HR : Hid (hasI F n0 k = r) := hr
    have HR' : Hid (hasI F (F (k * 3)) k = r) := by unfold Hid; rw [NN.out.1]; exact hr
    clear hr
    have hrow' : Hid (Row wr 0 3 k F (.slice (some ⟨g, o, none⟩) k cp)) := by
      obtain ⟨ao, cp', hv, hrw⟩ := hrow
      simp only [Value.slice.injEq] at hv
      obtain ⟨hv, _, rfl⟩ := hv
      refine ⟨_, _, rfl, fun hk0 => ?_⟩
      obtain ⟨g', o', hv', hb', hg', hc'⟩ := hrw (by omega)
      rw [← hv] at hv'
      exact ⟨g', o', hv', hb', hg', fun p hp => hc' p (by omega)⟩
    cases r with
    | true =>
      have E0 := HS.out
      rw [itemsF_two hm.out.1 HQ'.out HR'.out] at E0
      have E : Hid (txnF s c u st a n F = 6) := txnF_item HI.out HM.out (HF.out.trans E0.symm) (by omega)
      clear HS E0 HF HQ' HR'
      go_wp2_with fail
      refine (l8Item_is _ _ _ _).mono ?_
      rintro e w1 ⟨rfl, q1⟩
      rw [HQ.out]
      have HB : Hid (Below w.heap.size w w1) := HB.out.trans (q1.mono HB.out.size)
      obtain ⟨⟨⟨p0, p1, p2, p3, p4, p5⟩, _⟩, hrow1, _⟩ := H.out.later HB.out
      have hkc : k ≤ cp := by omega
      have x0 := (q1.cell (p := ⟨g, o + k * 3, none⟩) hg).trans x0
      have RK : Hid (∀ x, Row x 0 3 k F (.slice (some ⟨g, o, none⟩) k cp) → Calls Try.prog 43 #[.slice (some ⟨g, o, none⟩) k cp, .int .i64 n0] x fun e w' => e = .returned (.bool true) ∧ w' = x) := fun x hx => l8Has_is _ 0 k F n0 true HR.out x hx (by omega)
      have R1 : Hid (Row w1 0 3 k F (.slice (some ⟨g, o, none⟩) k cp)) := hrow'.out.later q1
      clear q1 hrow hrow' hrow1
      go_wp2_with fail
      go_quiet (first | (go_at_call 43; refine Calls.quiet_of_same (RK.out _ R1.out)))
      go_wp2
      go_ret
      exact ⟨by rw [E.out]; rfl, below_dt HB.out _⟩
    | false =>
      have E : Hid (itemsF F (n - (k + 1)) (k + 1) = f) := by
        have E0 := HS.out
        rw [itemsF_on hm.out.1 HQ'.out HR'.out, hm.out.2] at E0
        exact E0
      clear HS HF HQ' HR'
      go_wp2_with fail
      refine (l8Item_is _ _ _ _).mono ?_
      rintro e w1 ⟨rfl, q1⟩
      rw [HQ.out]
      have HB : Hid (Below w.heap.size w w1) := HB.out.trans (q1.mono HB.out.size)
      obtain ⟨⟨⟨p0, p1, p2, p3, p4, p5⟩, _⟩, hrow1, _⟩ := H.out.later HB.out
      have hkc : k ≤ cp := by omega
      have x0 := (q1.cell (p := ⟨g, o + k * 3, none⟩) hg).trans x0
      have RK : Hid (∀ x, Row x 0 3 k F (.slice (some ⟨g, o, none⟩) k cp) → Calls Try.prog 43 #[.slice (some ⟨g, o, none⟩) k cp, .int .i64 n0] x fun e w' => e = .returned (.bool false) ∧ w' = x) := fun x hx => l8Has_is _ 0 k F n0 false HR.out x hx (by omega)
      have R1 : Hid (Row w1 0 3 k F (.slice (some ⟨g, o, none⟩) k cp)) := hrow'.out.later q1
      clear q1 hrow hrow' hrow1
      go_wp2_with fail
      go_quiet (first | (go_at_call 43; refine Calls.quiet_of_same (RK.out _ R1.out)))
      go_wp2
      go_roundw
      case rel => exact ⟨k + 1, by omega, by go_num, E, below_dt HB.out _⟩
      case measure => simp [intOf]; omega
end Go.Proofs.Ytjimckfkbkfggaa
