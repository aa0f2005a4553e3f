/-
  Own text, merged of WldL, GrpF, GrpG, GrpL, SortD, StoA, GrpO, RngI, GrpW, RslB, FatX, WrkA, AppT, WrkB.
-/
import Derived.Test.YtdbcmckoiacemaaGreatPk6
namespace Go.Proofs.YtdbcmckoiacemaaGreat
open Go.RowKit

theorem isNowW_is (now : Int) (r : Bool) (hr : decide (0 ≤ now ∧ now ≤ 100000) = r) (w : World) :
    Calls Tryz.prog 55 #[.int .i64 now] w fun e w' => e = .returned (.bool r) ∧ w' = w := by
  go_enter Tryz.func55, Tryz.ntmps55
  go_wp2_with fail
  refine (isUntil_is now r hr _).mono ?_
  rintro e w1 ⟨rfl, hw1⟩
  obtain rfl := hw1.symm
  go_wp2
  go_ret
  exact ⟨rfl, rfl⟩
/-- The box of a world, the box of one of its transactions, and the rows; nothing old has turned. -/
structure PlE (w : World) (nw nx bd : Int) (vr vs : Value) (nt : Nat) (T : Nat → Tx) (X : Nat → Value) (vt : Value) (t : Tx) (y : Value) (x : World) : Prop where
  below : Below w.heap.size w x
  kw : Blk6 x w.heap.size (.int .i64 nw) (.int .i64 nx) (.int .i64 bd) vr vs vt
  kt : Blk6 x (w.heap.size + 1) (.int .i64 t.s) (.int .i64 t.c) (.int .i64 t.u) (.int .i64 t.st) (.int .i64 t.a) y
  txs : Txs x 0 nt T X vt
theorem PlE.later {w : World} {nw nx bd : Int} {vr vs : Value} {nt : Nat} {T : Nat → Tx} {X : Nat → Value} {vt : Value} {t : Tx} {y : Value} {x x' : World} (h : PlE w nw nx bd vr vs nt T X vt t y x) (hb : Below x.heap.size x x') : PlE w nw nx bd vr vs nt T X vt t y x' :=
  ⟨h.below.trans (hb.mono h.below.size), h.kw.later hb, h.kt.later hb, h.txs.later hb⟩
theorem below_pl {B : Nat} {a w : World} (h : Below B a w) (q : Nat) : Below B a (w.drewN q) := ⟨h.os, h.tape, h.output, h.size, h.block⟩
set_option maxRecDepth 100000 in
set_option maxHeartbeats 8000000 in
theorem implPlace_any (nw nx bd : Int) (vr vs : Value) (nt : Nat) (T : Nat → Tx) (X : Nat → Value) (vt : Value) (k : Nat) (w : World) (hx : Txs w 0 nt T X vt) (hk : k < nt) (hn16 : nt ≤ 16) :
    Calls Tryz.prog 58 #[.agg #[.int .i64 nw, .int .i64 nx, .int .i64 bd, vr, vs, vt], .int .i64 k] w fun e w' => e = .returned (.int .i64 (placeF nx T k)) ∧ Below w.heap.size w w' := by
  obtain ⟨a2, c2, rfl⟩ := hx.form
  have H : Hid (Txs w 0 nt T X (.slice a2 nt c2)) := hx
  obtain ⟨g, o, ha2, _, hg, ⟨x0, x1, x2, x3, x4, x5⟩, hrow, hcap⟩ := hx.at hk
  subst ha2
  clear hx
  obtain ⟨t, ht⟩ : ∃ t, T k = t := ⟨_, rfl⟩
  have HT : Hid (T k = t) := ht
  rw [ht] at x0 x1 x2 x3 x4 hrow
  obtain ⟨y, hy⟩ : ∃ y, X k = y := ⟨_, rfl⟩
  rw [hy] at x5 hrow hcap
  clear ht hy
  obtain ⟨yo, yc, rfl⟩ := hrow.form
  have HR : Hid (Row w 0 3 t.m t.L (.slice yo t.m yc) ∧ CapOk (.slice yo t.m yc)) := ⟨hrow, hcap⟩
  have P0 : Hid (PlE w nw nx bd vr vs nt T X (.slice (some ⟨g, o, none⟩) nt c2) t (.slice yo t.m yc) ((w.alloc (.cells #[.int .i64 nw, .int .i64 nx, .int .i64 bd, vr, vs, .slice (some ⟨g, o, none⟩) nt c2] 43)).alloc (.cells #[.int .i64 t.s, .int .i64 t.c, .int .i64 t.u, .int .i64 t.st, .int .i64 t.a, .slice yo t.m yc] 94))) :=
    ⟨(below_alloc _ _).alloc (by simp) _, (Blk6.new w _ _ _ _ _ _ _).alloc _, by have := Blk6.new (w.alloc (.cells #[.int .i64 nw, .int .i64 nx, .int .i64 bd, vr, vs, .slice (some ⟨g, o, none⟩) nt c2] 43)) (.int .i64 t.s) (.int .i64 t.c) (.int .i64 t.u) (.int .i64 t.st) (.int .i64 t.a) (.slice yo t.m yc) 94; rwa [World.size_alloc] at this, (H.out.alloc _).alloc _⟩
  clear hrow hcap
  obtain ⟨f, hf⟩ : ∃ f, txnF t.s t.c t.u t.st t.a t.m t.L = f := ⟨_, rfl⟩
  have HF : Hid (txnF t.s t.c t.u t.st t.a t.m t.L = f) := hf
  have HF' : Hid (txF (T k) = f) := by unfold Hid; rw [HT.out]; exact hf
  clear hf
  go_enter Tryz.func58, Tryz.ntmps58
  go_wp2_with fail
  refine (implTxnFault_any _ _ _ _ _ _ _ _ _ ((HR.out.1.alloc _).alloc _) HR.out.2).mono ?_
  rw [HF.out]
  rintro e w1 ⟨rfl, q1⟩
  have P1 : Hid (PlE w nw nx bd vr vs nt T X (.slice (some ⟨g, o, none⟩) nt c2) t (.slice yo t.m yc) w1) := P0.out.later q1
  clear q1 P0 x0 x1 x2 x3 x4 x5
  by_cases hz : f = 0
  case neg =>
    have d' : (f != 0) = true := bne_iff_ne.2 hz
    have E : Hid (placeF nx T k = f) := (placeF_txn (by rw [HF'.out]; exact hz)).trans HF'.out
    clear hz HF HF'
    go_wp2
    go_ret
    exact ⟨by rw [E.out]; rfl, P1.out.below⟩
  subst hz
  obtain ⟨⟨p0, p1, p2, p3, p4, p5⟩, _⟩ := P1.out.kw
  obtain ⟨⟨t0, t1, t2, t3, t4, t5⟩, _⟩ := P1.out.kt
  obtain ⟨s, hs⟩ : ∃ x, t.s = x := ⟨_, rfl⟩
  obtain ⟨c, hc⟩ : ∃ x, t.c = x := ⟨_, rfl⟩
  rw [hs] at t0
  rw [hc] at t1
  have HSC : Hid (t.s = s ∧ t.c = c) := ⟨hs, hc⟩
  clear hs hc
  by_cases h1 : nx ≤ s
  · have d1 : decide (s ≥ nx) = true := decide_eq_true h1
    have E : Hid (placeF nx T k = 3) := placeF_next HF'.out (Or.inl (by rw [HT.out, HSC.out.1]; exact h1))
    clear HF HF'
    go_wp2
    go_ret
    exact ⟨by rw [E.out]; rfl, P1.out.below⟩
  have d1 : decide (s ≥ nx) = false := decide_eq_false h1
  by_cases h2 : nx ≤ c
  · have d2 : decide (c ≥ nx) = true := decide_eq_true h2
    have E : Hid (placeF nx T k = 3) := placeF_next HF'.out (Or.inr (by rw [HT.out, HSC.out.2]; exact h2))
    clear HF HF'
    go_wp2
    go_ret
    exact ⟨by rw [E.out]; rfl, P1.out.below⟩
  have d2 : decide (c ≥ nx) = false := decide_eq_false h2
  have HX : Hid (¬ (nx ≤ (T k).s ∨ nx ≤ (T k).c)) := by
    unfold Hid
    rw [HT.out, HSC.out.1, HSC.out.2]
    omega
  go_wp2
  clear p0 p1 p2 p3 p4 p5 t0 t1 t2 t3 t4 t5 h1 h2 d1 d2
  go_loopw [33] (fun i wr => ∃ m : Nat, m ≤ k ∧ i = .int .i64 m ∧ Hid (¬ takenT T k m) ∧ Hid (PlE w nw nx bd vr vs nt T X (.slice (some ⟨g, o, none⟩) nt c2) t (.slice yo t.m yc) wr)) (fun i _ => k - (intOf i).toNat)
  case atStart => exact ⟨0, Nat.zero_le _, rfl, takenT_none T k, P1⟩
  case round =>
    clear P1
    obtain ⟨m, hmk, rfl, HN, HB⟩ := hrel
    by_cases hlm : m < k
    case neg =>
      obtain rfl : m = k := by omega
      have E : Hid (placeF nx T m = 0) := placeF_ok HF'.out HX.out HN.out
      go_wp2
      go_ret
      exact ⟨by rw [E.out]; rfl, HB.out.below⟩
    obtain ⟨⟨p0, p1, p2, p3, p4, p5⟩, _⟩ := HB.out.kw
    obtain ⟨⟨t0, t1, t2, t3, t4, t5⟩, _⟩ := HB.out.kt
    rw [HSC.out.1] at t0
    obtain ⟨g1, o1, e1, _, _, ⟨y0, _⟩, _⟩ := HB.out.txs.at (i := m) (by omega)
    simp only [Option.some.injEq, Addr.mk.injEq, and_true] at e1
    obtain ⟨rfl, rfl⟩ := e1
    obtain ⟨r, hr'⟩ : ∃ x, (T m).s = x := ⟨_, rfl⟩
    rw [hr'] at y0
    have HRR : Hid ((T m).s = r) := hr'
    clear hr'
    have hmn : m < nt := by omega
    by_cases he : r = s
    · have E : Hid (placeF nx T k = 6) := placeF_taken HF'.out HX.out ⟨m, hlm, by rw [HRR.out, HT.out, HSC.out.1]; exact he⟩
      have d1 : (r == s) = true := beq_iff_eq.2 he
      clear he HF HF' HN HX HRR
      go_wp2_with fail
      go_quiet (fail)
      go_wp2
      go_ret
      exact ⟨by rw [E.out]; rfl, below_pl HB.out.below _⟩
    · have HN1 : Hid (¬ takenT T k (m + 1)) := takenT_go HN.out (by rw [HRR.out, HT.out, HSC.out.1]; exact he)
      have d1 : (r == s) = false := beq_eq_false_iff_ne.2 he
      clear he HN HRR
      go_wp2_with fail
      go_quiet (fail)
      go_wp2
      go_roundw
      case rel => exact ⟨m + 1, by omega, by go_num, HN1, HB.out.later (below_pl (Below.refl _ _) _)⟩
      case measure => simp [intOf]; omega
end Go.Proofs.YtdbcmckoiacemaaGreat

namespace Go.Proofs.YtdbcmckoiacemaaGreat
open Go.RowKit

/-- The closure that is told a key: the range lies in block br. -/
def strayV (br : Nat) : Value := .func (.func 138) #[] #[.pointer (some ⟨br, 0, none⟩)]
/-- The closures' blocks. -/
def StrE (br bq : Nat) (fr tto : Int) (x : World) : Prop := x.cell? ⟨bq, 0, none⟩ = some (strayV br) ∧ x.cell? ⟨br, 0, none⟩ = some (.int .i64 fr) ∧ x.cell? ⟨br, 1, none⟩ = some (.int .i64 tto)
theorem StrE.later {x x' : World} {br bq : Nat} {fr tto : Int} (h : StrE br bq fr tto x) (hb : Below x.heap.size x x') : StrE br bq fr tto x' :=
  ⟨(hb.cell (p := ⟨bq, 0, none⟩) (World.block_lt_of_cell? x _ h.1)).trans h.1, (hb.cell (p := ⟨br, 0, none⟩) (World.block_lt_of_cell? x _ h.2.1)).trans h.2.1, (hb.cell (p := ⟨br, 1, none⟩) (World.block_lt_of_cell? x _ h.2.2)).trans h.2.2⟩
def outK (fr tto key : Int) : Bool := decide (key < fr ∨ tto ≤ key)
set_option maxHeartbeats 1000000 in
theorem stray1_is (br : Nat) (fr tto key : Int) (w : World) (h0 : w.cell? ⟨br, 0, none⟩ = some (.int .i64 fr)) (h1 : w.cell? ⟨br, 1, none⟩ = some (.int .i64 tto)) :
    Calls Tryz.prog 138 #[.int .i64 key, .pointer (some ⟨br, 0, none⟩)] w fun e w' => e = .returned (.bool (outK fr tto key)) ∧ w' = w := by
  by_cases q0 : key < fr
  · have E : Hid (outK fr tto key = true) := decide_eq_true (Or.inl q0)
    have d : decide (key < fr) = true := decide_eq_true q0
    clear q0
    go_enter Tryz.func138, Tryz.ntmps138
    go_wp2
    go_ret
    exact ⟨by rw [E.out]; rfl, rfl⟩
  have d : decide (key < fr) = false := decide_eq_false q0
  by_cases q1 : tto ≤ key
  · have E : Hid (outK fr tto key = true) := decide_eq_true (Or.inr q1)
    have d1 : decide (tto ≤ key) = true := decide_eq_true q1
    clear q0 q1
    go_enter Tryz.func138, Tryz.ntmps138
    go_wp2
    go_ret
    exact ⟨by rw [E.out]; rfl, rfl⟩
  · have E : Hid (outK fr tto key = false) := decide_eq_false (fun q => by omega)
    have d1 : decide (tto ≤ key) = false := decide_eq_false q1
    clear q0 q1
    go_enter Tryz.func138, Tryz.ntmps138
    go_wp2
    go_ret
    exact ⟨by rw [E.out]; rfl, rfl⟩
set_option maxHeartbeats 1000000 in
theorem strayCell_is (br bq : Nat) (fr tto : Int) (n0 n1 n2 : Int) (w : World) (h : StrE br bq fr tto w) :
    Calls Tryz.prog 140 #[.agg #[.int .i64 n0, .int .i64 n1, .int .i64 n2], .pointer (some ⟨bq, 0, none⟩)] w fun e w' => e = .returned (.bool (outK fr tto n0)) ∧ Below w.heap.size w w' := by
  have H : Hid (StrE br bq fr tto (w.alloc (.cells #[.int .i64 n0, .int .i64 n1, .int .i64 n2] 216))) := h.later (below_alloc _ _)
  obtain ⟨h0, _⟩ := H.out
  have hq : bq < w.heap.size := World.block_lt_of_cell? w _ h.1
  clear h
  unfold strayV at h0
  obtain ⟨r, hr⟩ : ∃ r, outK fr tto n0 = r := ⟨_, rfl⟩
  have HR : Hid (outK fr tto n0 = r) := hr
  clear hr
  go_enter Tryz.func140, Tryz.ntmps140
  go_wp2_with fail
  refine (stray1_is br fr tto n0 _ H.out.2.1 H.out.2.2).mono ?_
  rw [HR.out]
  rintro e w1 ⟨rfl, rfl⟩
  go_wp2
  go_ret
  exact ⟨by rw [HR.out]; rfl, below_alloc _ _⟩
set_option maxRecDepth 100000 in
set_option maxHeartbeats 4000000 in
theorem indexStrayCell_is (br bq : Nat) (fr tto : Int) (B n : Nat) (F : Nat → Int) (v : Value) (w : World) (h : Row w B 3 n F v) (hn : n ≤ 1048576) (hw : StrE br bq fr tto w) :
    Calls Tryz.prog 173 #[v, .func (.func 140) #[] #[.pointer (some ⟨bq, 0, none⟩)]] w fun e w' => ∃ r : Int, e = .returned (.int .i64 r) ∧ ((r = -1 ∧ ∀ i, i < n → outK fr tto (F (i * 3)) = false) ∨ (0 ≤ r ∧ ∃ i, i < n ∧ outK fr tto (F (i * 3)) = true)) ∧ Below w.heap.size w w' := by
  obtain ⟨ao, cp, rfl⟩ := h.form
  have H : Hid (Row w B 3 n F (.slice ao n cp)) := h
  have HW : Hid (StrE br bq fr tto w) := hw
  clear h hw
  go_enter Tryz.func173, Tryz.ntmps173
  go_wp2
  go_loopw [8] (fun i wr => ∃ k : Nat, k ≤ n ∧ i = .int .i64 k ∧ Hid (∀ j, j < k → outK fr tto (F (j * 3)) = false) ∧ Hid (Below w.heap.size w wr)) (fun i _ => n - (intOf i).toNat)
  case atStart => exact ⟨0, Nat.zero_le _, rfl, fun j hj => absurd hj (Nat.not_lt_zero j), Below.refl _ _⟩
  case round =>
    obtain ⟨k, hk, rfl, HS, HB⟩ := hrel
    by_cases hlt : k < n
    case neg =>
      obtain rfl : n = k := by omega
      go_wp2
      go_ret
      exact ⟨-1, rfl, Or.inl ⟨rfl, HS.out⟩, HB.out⟩
    obtain ⟨g, o, rfl, _, hg, x0, x1, x2⟩ := (H.out.later HB.out).at3 hlt
    obtain ⟨n0, N0⟩ : ∃ x, F (k * 3) = x := ⟨_, rfl⟩
    rw [N0] at x0
    obtain ⟨n1, N1⟩ : ∃ x, F (k * 3 + 1) = x := ⟨_, rfl⟩
    rw [N1] at x1
    obtain ⟨n2, N2⟩ : ∃ x, F (k * 3 + 2) = x := ⟨_, rfl⟩
    rw [N2] at x2
    obtain ⟨r, hr⟩ : ∃ r, outK fr tto n0 = r := ⟨_, rfl⟩
    have HR : Hid (outK fr tto n0 = r) := hr
    have HN : Hid (F (k * 3) = n0) := N0
    clear N0 N1 N2 hr
    cases r with
    | true =>
      go_wp2_with fail
      refine (strayCell_is br bq fr tto n0 n1 n2 _ (HW.out.later HB.out)).mono ?_
      rw [HR.out]
      rintro e w1 ⟨rfl, q1⟩
      have HB1 : Hid (Below w.heap.size w w1) := HB.out.trans (q1.mono HB.out.size)
      clear q1
      go_wp2
      go_ret
      exact ⟨k, rfl, Or.inr ⟨by omega, k, hlt, by rw [HN.out]; exact HR.out⟩, HB1.out⟩
    | false =>
      have HS1 : Hid (∀ j, j < k + 1 → outK fr tto (F (j * 3)) = false) := fun j hj => by
        by_cases q : j = k
        · subst q; rw [HN.out]; exact HR.out
        · exact HS.out j (by omega)
      go_wp2_with fail
      refine (strayCell_is br bq fr tto n0 n1 n2 _ (HW.out.later HB.out)).mono ?_
      rw [HR.out]
      rintro e w1 ⟨rfl, q1⟩
      have HB1 : Hid (Below w.heap.size w w1) := HB.out.trans (q1.mono HB.out.size)
      clear q1
      go_wp2
      go_roundw
      case rel => exact ⟨k + 1, by omega, by go_num, HS1, HB1⟩
      case measure => simp [intOf]; omega
set_option maxHeartbeats 1000000 in
theorem containsStrayCell_is (br bq : Nat) (fr tto : Int) (B n : Nat) (F : Nat → Int) (v : Value) (w : World) (h : Row w B 3 n F v) (hn : n ≤ 1048576) (hw : StrE br bq fr tto w) :
    Calls Tryz.prog 139 #[v, .func (.func 140) #[] #[.pointer (some ⟨bq, 0, none⟩)]] w fun e w' => e = .returned (.bool (decide (keepN F 3 fr (tto - 1) n ≠ n))) ∧ Below w.heap.size w w' := by
  obtain ⟨ao, cp, rfl⟩ := h.form
  have H : Hid (Row w B 3 n F (.slice ao n cp)) := h
  have HW : Hid (StrE br bq fr tto w) := hw
  clear h hw
  go_enter Tryz.func139, Tryz.ntmps139
  go_wp2_with fail
  refine (indexStrayCell_is br bq fr tto B n F _ _ H.out hn HW.out).mono ?_
  rintro e w1 ⟨r, rfl, hr, q1⟩
  have HB : Hid (Below w.heap.size w w1) := q1
  clear q1
  rcases hr with ⟨rfl, hr⟩ | ⟨h0, i, hi, hr⟩
  · have E : Hid (decide (keepN F 3 fr (tto - 1) n ≠ n) = false) := decide_eq_false (fun q => q ((keep_all n).2 (fun i hi => by have := of_decide_eq_false (hr i hi); omega)))
    clear hr
    go_wp2
    go_ret
    exact ⟨by rw [E.out]; rfl, HB.out⟩
  · have E : Hid (decide (keepN F 3 fr (tto - 1) n ≠ n) = true) := decide_eq_true (fun q => by have h1 := (keep_all n).1 q i hi; have h2 := of_decide_eq_true hr; omega)
    have d : decide ((0 : Int) ≤ r) = true := decide_eq_true h0
    clear hr h0
    go_wp2
    go_ret
    exact ⟨by rw [E.out]; rfl, HB.out⟩
set_option maxHeartbeats 1000000 in
theorem strayLock_is (br bq : Nat) (fr tto : Int) (n0 n1 n2 n3 n4 : Int) (w : World) (h : StrE br bq fr tto w) :
    Calls Tryz.prog 142 #[.agg #[.int .i64 n0, .int .i64 n1, .int .i64 n2, .int .i64 n3, .int .i64 n4], .pointer (some ⟨bq, 0, none⟩)] w fun e w' => e = .returned (.bool (outK fr tto n0)) ∧ Below w.heap.size w w' := by
  have H : Hid (StrE br bq fr tto (w.alloc (.cells #[.int .i64 n0, .int .i64 n1, .int .i64 n2, .int .i64 n3, .int .i64 n4] 173))) := h.later (below_alloc _ _)
  obtain ⟨h0, _⟩ := H.out
  have hq : bq < w.heap.size := World.block_lt_of_cell? w _ h.1
  clear h
  unfold strayV at h0
  obtain ⟨r, hr⟩ : ∃ r, outK fr tto n0 = r := ⟨_, rfl⟩
  have HR : Hid (outK fr tto n0 = r) := hr
  clear hr
  go_enter Tryz.func142, Tryz.ntmps142
  go_wp2_with fail
  refine (stray1_is br fr tto n0 _ H.out.2.1 H.out.2.2).mono ?_
  rw [HR.out]
  rintro e w1 ⟨rfl, rfl⟩
  go_wp2
  go_ret
  exact ⟨by rw [HR.out]; rfl, below_alloc _ _⟩
set_option maxRecDepth 100000 in
set_option maxHeartbeats 4000000 in
theorem indexStrayLock_is (br bq : Nat) (fr tto : Int) (B n : Nat) (F : Nat → Int) (v : Value) (w : World) (h : Row w B 5 n F v) (hn : n ≤ 1048576) (hw : StrE br bq fr tto w) :
    Calls Tryz.prog 174 #[v, .func (.func 142) #[] #[.pointer (some ⟨bq, 0, none⟩)]] w fun e w' => ∃ r : Int, e = .returned (.int .i64 r) ∧ ((r = -1 ∧ ∀ i, i < n → outK fr tto (F (i * 5)) = false) ∨ (0 ≤ r ∧ ∃ i, i < n ∧ outK fr tto (F (i * 5)) = true)) ∧ Below w.heap.size w w' := by
  obtain ⟨ao, cp, rfl⟩ := h.form
  have H : Hid (Row w B 5 n F (.slice ao n cp)) := h
  have HW : Hid (StrE br bq fr tto w) := hw
  clear h hw
  go_enter Tryz.func174, Tryz.ntmps174
  go_wp2
  go_loopw [8] (fun i wr => ∃ k : Nat, k ≤ n ∧ i = .int .i64 k ∧ Hid (∀ j, j < k → outK fr tto (F (j * 5)) = false) ∧ Hid (Below w.heap.size w wr)) (fun i _ => n - (intOf i).toNat)
  case atStart => exact ⟨0, Nat.zero_le _, rfl, fun j hj => absurd hj (Nat.not_lt_zero j), Below.refl _ _⟩
  case round =>
    obtain ⟨k, hk, rfl, HS, HB⟩ := hrel
    by_cases hlt : k < n
    case neg =>
      obtain rfl : n = k := by omega
      go_wp2
      go_ret
      exact ⟨-1, rfl, Or.inl ⟨rfl, HS.out⟩, HB.out⟩
    obtain ⟨g, o, rfl, _, hg, x0, x1, x2, x3, x4⟩ := (H.out.later HB.out).at5 hlt
    obtain ⟨n0, N0⟩ : ∃ x, F (k * 5) = x := ⟨_, rfl⟩
    rw [N0] at x0
    obtain ⟨n1, N1⟩ : ∃ x, F (k * 5 + 1) = x := ⟨_, rfl⟩
    rw [N1] at x1
    obtain ⟨n2, N2⟩ : ∃ x, F (k * 5 + 2) = x := ⟨_, rfl⟩
    rw [N2] at x2
    obtain ⟨n3, N3⟩ : ∃ x, F (k * 5 + 3) = x := ⟨_, rfl⟩
    rw [N3] at x3
    obtain ⟨n4, N4⟩ : ∃ x, F (k * 5 + 4) = x := ⟨_, rfl⟩
    rw [N4] at x4
    obtain ⟨r, hr⟩ : ∃ r, outK fr tto n0 = r := ⟨_, rfl⟩
    have HR : Hid (outK fr tto n0 = r) := hr
    have HN : Hid (F (k * 5) = n0) := N0
    clear N0 N1 N2 N3 N4 hr
    cases r with
    | true =>
      go_wp2_with fail
      refine (strayLock_is br bq fr tto n0 n1 n2 n3 n4 _ (HW.out.later HB.out)).mono ?_
      rw [HR.out]
      rintro e w1 ⟨rfl, q1⟩
      have HB1 : Hid (Below w.heap.size w w1) := HB.out.trans (q1.mono HB.out.size)
      clear q1
      go_wp2
      go_ret
      exact ⟨k, rfl, Or.inr ⟨by omega, k, hlt, by rw [HN.out]; exact HR.out⟩, HB1.out⟩
    | false =>
      have HS1 : Hid (∀ j, j < k + 1 → outK fr tto (F (j * 5)) = false) := fun j hj => by
        by_cases q : j = k
        · subst q; rw [HN.out]; exact HR.out
        · exact HS.out j (by omega)
      go_wp2_with fail
      refine (strayLock_is br bq fr tto n0 n1 n2 n3 n4 _ (HW.out.later HB.out)).mono ?_
      rw [HR.out]
      rintro e w1 ⟨rfl, q1⟩
      have HB1 : Hid (Below w.heap.size w w1) := HB.out.trans (q1.mono HB.out.size)
      clear q1
      go_wp2
      go_roundw
      case rel => exact ⟨k + 1, by omega, by go_num, HS1, HB1⟩
      case measure => simp [intOf]; omega
set_option maxHeartbeats 1000000 in
theorem containsStrayLock_is (br bq : Nat) (fr tto : Int) (B n : Nat) (F : Nat → Int) (v : Value) (w : World) (h : Row w B 5 n F v) (hn : n ≤ 1048576) (hw : StrE br bq fr tto w) :
    Calls Tryz.prog 141 #[v, .func (.func 142) #[] #[.pointer (some ⟨bq, 0, none⟩)]] w fun e w' => e = .returned (.bool (decide (keepN F 5 fr (tto - 1) n ≠ n))) ∧ Below w.heap.size w w' := by
  obtain ⟨ao, cp, rfl⟩ := h.form
  have H : Hid (Row w B 5 n F (.slice ao n cp)) := h
  have HW : Hid (StrE br bq fr tto w) := hw
  clear h hw
  go_enter Tryz.func141, Tryz.ntmps141
  go_wp2_with fail
  refine (indexStrayLock_is br bq fr tto B n F _ _ H.out hn HW.out).mono ?_
  rintro e w1 ⟨r, rfl, hr, q1⟩
  have HB : Hid (Below w.heap.size w w1) := q1
  clear q1
  rcases hr with ⟨rfl, hr⟩ | ⟨h0, i, hi, hr⟩
  · have E : Hid (decide (keepN F 5 fr (tto - 1) n ≠ n) = false) := decide_eq_false (fun q => q ((keep_all n).2 (fun i hi => by have := of_decide_eq_false (hr i hi); omega)))
    clear hr
    go_wp2
    go_ret
    exact ⟨by rw [E.out]; rfl, HB.out⟩
  · have E : Hid (decide (keepN F 5 fr (tto - 1) n ≠ n) = true) := decide_eq_true (fun q => by have h1 := (keep_all n).1 q i hi; have h2 := of_decide_eq_true hr; omega)
    have d : decide ((0 : Int) ≤ r) = true := decide_eq_true h0
    clear hr h0
    go_wp2
    go_ret
    exact ⟨by rw [E.out]; rfl, HB.out⟩
set_option maxHeartbeats 1000000 in
theorem strayWrite_is (br bq : Nat) (fr tto : Int) (n0 n1 n2 n3 : Int) (w : World) (h : StrE br bq fr tto w) :
    Calls Tryz.prog 144 #[.agg #[.int .i64 n0, .int .i64 n1, .int .i64 n2, .int .i64 n3], .pointer (some ⟨bq, 0, none⟩)] w fun e w' => e = .returned (.bool (outK fr tto n0)) ∧ Below w.heap.size w w' := by
  have H : Hid (StrE br bq fr tto (w.alloc (.cells #[.int .i64 n0, .int .i64 n1, .int .i64 n2, .int .i64 n3] 102))) := h.later (below_alloc _ _)
  obtain ⟨h0, _⟩ := H.out
  have hq : bq < w.heap.size := World.block_lt_of_cell? w _ h.1
  clear h
  unfold strayV at h0
  obtain ⟨r, hr⟩ : ∃ r, outK fr tto n0 = r := ⟨_, rfl⟩
  have HR : Hid (outK fr tto n0 = r) := hr
  clear hr
  go_enter Tryz.func144, Tryz.ntmps144
  go_wp2_with fail
  refine (stray1_is br fr tto n0 _ H.out.2.1 H.out.2.2).mono ?_
  rw [HR.out]
  rintro e w1 ⟨rfl, rfl⟩
  go_wp2
  go_ret
  exact ⟨by rw [HR.out]; rfl, below_alloc _ _⟩
set_option maxRecDepth 100000 in
set_option maxHeartbeats 4000000 in
theorem indexStrayWrite_is (br bq : Nat) (fr tto : Int) (B n : Nat) (F : Nat → Int) (v : Value) (w : World) (h : Row w B 4 n F v) (hn : n ≤ 1048576) (hw : StrE br bq fr tto w) :
    Calls Tryz.prog 175 #[v, .func (.func 144) #[] #[.pointer (some ⟨bq, 0, none⟩)]] w fun e w' => ∃ r : Int, e = .returned (.int .i64 r) ∧ ((r = -1 ∧ ∀ i, i < n → outK fr tto (F (i * 4)) = false) ∨ (0 ≤ r ∧ ∃ i, i < n ∧ outK fr tto (F (i * 4)) = true)) ∧ Below w.heap.size w w' := by
  obtain ⟨ao, cp, rfl⟩ := h.form
  have H : Hid (Row w B 4 n F (.slice ao n cp)) := h
  have HW : Hid (StrE br bq fr tto w) := hw
  clear h hw
  go_enter Tryz.func175, Tryz.ntmps175
  go_wp2
  go_loopw [8] (fun i wr => ∃ k : Nat, k ≤ n ∧ i = .int .i64 k ∧ Hid (∀ j, j < k → outK fr tto (F (j * 4)) = false) ∧ Hid (Below w.heap.size w wr)) (fun i _ => n - (intOf i).toNat)
  case atStart => exact ⟨0, Nat.zero_le _, rfl, fun j hj => absurd hj (Nat.not_lt_zero j), Below.refl _ _⟩
  case round =>
    obtain ⟨k, hk, rfl, HS, HB⟩ := hrel
    by_cases hlt : k < n
    case neg =>
      obtain rfl : n = k := by omega
      go_wp2
      go_ret
      exact ⟨-1, rfl, Or.inl ⟨rfl, HS.out⟩, HB.out⟩
    obtain ⟨g, o, rfl, _, hg, x0, x1, x2, x3⟩ := (H.out.later HB.out).at4 hlt
    obtain ⟨n0, N0⟩ : ∃ x, F (k * 4) = x := ⟨_, rfl⟩
    rw [N0] at x0
    obtain ⟨n1, N1⟩ : ∃ x, F (k * 4 + 1) = x := ⟨_, rfl⟩
    rw [N1] at x1
    obtain ⟨n2, N2⟩ : ∃ x, F (k * 4 + 2) = x := ⟨_, rfl⟩
    rw [N2] at x2
    obtain ⟨n3, N3⟩ : ∃ x, F (k * 4 + 3) = x := ⟨_, rfl⟩
    rw [N3] at x3
    obtain ⟨r, hr⟩ : ∃ r, outK fr tto n0 = r := ⟨_, rfl⟩
    have HR : Hid (outK fr tto n0 = r) := hr
    have HN : Hid (F (k * 4) = n0) := N0
    clear N0 N1 N2 N3 hr
    cases r with
    | true =>
      go_wp2_with fail
      refine (strayWrite_is br bq fr tto n0 n1 n2 n3 _ (HW.out.later HB.out)).mono ?_
      rw [HR.out]
      rintro e w1 ⟨rfl, q1⟩
      have HB1 : Hid (Below w.heap.size w w1) := HB.out.trans (q1.mono HB.out.size)
      clear q1
      go_wp2
      go_ret
      exact ⟨k, rfl, Or.inr ⟨by omega, k, hlt, by rw [HN.out]; exact HR.out⟩, HB1.out⟩
    | false =>
      have HS1 : Hid (∀ j, j < k + 1 → outK fr tto (F (j * 4)) = false) := fun j hj => by
        by_cases q : j = k
        · subst q; rw [HN.out]; exact HR.out
        · exact HS.out j (by omega)
      go_wp2_with fail
      refine (strayWrite_is br bq fr tto n0 n1 n2 n3 _ (HW.out.later HB.out)).mono ?_
      rw [HR.out]
      rintro e w1 ⟨rfl, q1⟩
      have HB1 : Hid (Below w.heap.size w w1) := HB.out.trans (q1.mono HB.out.size)
      clear q1
      go_wp2
      go_roundw
      case rel => exact ⟨k + 1, by omega, by go_num, HS1, HB1⟩
      case measure => simp [intOf]; omega
set_option maxHeartbeats 1000000 in
theorem containsStrayWrite_is (br bq : Nat) (fr tto : Int) (B n : Nat) (F : Nat → Int) (v : Value) (w : World) (h : Row w B 4 n F v) (hn : n ≤ 1048576) (hw : StrE br bq fr tto w) :
    Calls Tryz.prog 143 #[v, .func (.func 144) #[] #[.pointer (some ⟨bq, 0, none⟩)]] w fun e w' => e = .returned (.bool (decide (keepN F 4 fr (tto - 1) n ≠ n))) ∧ Below w.heap.size w w' := by
  obtain ⟨ao, cp, rfl⟩ := h.form
  have H : Hid (Row w B 4 n F (.slice ao n cp)) := h
  have HW : Hid (StrE br bq fr tto w) := hw
  clear h hw
  go_enter Tryz.func143, Tryz.ntmps143
  go_wp2_with fail
  refine (indexStrayWrite_is br bq fr tto B n F _ _ H.out hn HW.out).mono ?_
  rintro e w1 ⟨r, rfl, hr, q1⟩
  have HB : Hid (Below w.heap.size w w1) := q1
  clear q1
  rcases hr with ⟨rfl, hr⟩ | ⟨h0, i, hi, hr⟩
  · have E : Hid (decide (keepN F 4 fr (tto - 1) n ≠ n) = false) := decide_eq_false (fun q => q ((keep_all n).2 (fun i hi => by have := of_decide_eq_false (hr i hi); omega)))
    clear hr
    go_wp2
    go_ret
    exact ⟨by rw [E.out]; rfl, HB.out⟩
  · have E : Hid (decide (keepN F 4 fr (tto - 1) n ≠ n) = true) := decide_eq_true (fun q => by have h1 := (keep_all n).1 q i hi; have h2 := of_decide_eq_true hr; omega)
    have d : decide ((0 : Int) ≤ r) = true := decide_eq_true h0
    clear hr h0
    go_wp2
    go_ret
    exact ⟨by rw [E.out]; rfl, HB.out⟩
set_option maxRecDepth 100000 in
set_option maxHeartbeats 4000000 in
theorem hasStray_any (S : Sto) (v0 v1 v2 : Value) (fr tto ep : Int) (B : Nat) (w : World) (h : St w B S v0 v1 v2) (hn : S.nc ≤ 200 ∧ S.nl ≤ 200 ∧ S.nw ≤ 200) :
    Calls Tryz.prog 96 #[.agg #[v0, v1, v2], .agg #[.int .i64 fr, .int .i64 tto, .int .i64 ep]] w fun e w' => e = .returned (.bool (decide (strayS S fr tto))) ∧ Below w.heap.size w w' := by
  obtain ⟨a0, c0, a1, c1, a2, c2, rfl, rfl, rfl⟩ := h.form
  have H : Hid (St w B S (.slice a0 S.nc c0) (.slice a1 S.nl c1) (.slice a2 S.nw c2)) := h
  have HT : Hid (S.nc ≤ 1048576 ∧ S.nl ≤ 1048576 ∧ S.nw ≤ 1048576) := ⟨by omega, by omega, by omega⟩
  obtain ⟨x0, hx0⟩ : ∃ x, decide (keepN S.c 3 fr (tto - 1) S.nc ≠ S.nc) = x := ⟨_, rfl⟩
  obtain ⟨x1, hx1⟩ : ∃ x, decide (keepN S.l 5 fr (tto - 1) S.nl ≠ S.nl) = x := ⟨_, rfl⟩
  obtain ⟨x2, hx2⟩ : ∃ x, decide (keepN S.k 4 fr (tto - 1) S.nw ≠ S.nw) = x := ⟨_, rfl⟩
  have HX : Hid (decide (keepN S.c 3 fr (tto - 1) S.nc ≠ S.nc) = x0 ∧ decide (keepN S.l 5 fr (tto - 1) S.nl ≠ S.nl) = x1 ∧ decide (keepN S.k 4 fr (tto - 1) S.nw ≠ S.nw) = x2) := ⟨hx0, hx1, hx2⟩
  have HS : Hid (decide (strayS S fr tto) = (x0 || (x1 || x2))) := by
    unfold Hid
    rw [← hx0, ← hx1, ← hx2, ← Bool.decide_or, ← Bool.decide_or]
    exact decide_eq_decide.2 Iff.rfl
  clear h hn hx0 hx1 hx2
  have HE : Hid (StrE (w.heap.size + 1) (w.heap.size + 2) fr tto (((w.alloc (.cells #[.slice a0 S.nc c0, .slice a1 S.nl c1, .slice a2 S.nw c2] 107)).alloc (.cells #[.int .i64 fr, .int .i64 tto, .int .i64 ep] 130)).alloc (.cells #[strayV (w.heap.size + 1)] 76))) := by
    have h1 := ((Blk3.new (w.alloc (.cells #[.slice a0 S.nc c0, .slice a1 S.nl c1, .slice a2 S.nw c2] 107)) (.int .i64 fr) (.int .i64 tto) (.int .i64 ep) 130).alloc (.cells #[strayV (w.heap.size + 1)] 76)).1
    have h3 := World.cell?_alloc_mark ((w.alloc (.cells #[.slice a0 S.nc c0, .slice a1 S.nl c1, .slice a2 S.nw c2] 107)).alloc (.cells #[.int .i64 fr, .int .i64 tto, .int .i64 ep] 130)) #[strayV (w.heap.size + 1)] 76 (0, 0) 0
    simp only [World.size_alloc] at h1 h3
    exact ⟨h3, h1.1, h1.2.1⟩
  have HK : Hid (Blk3 (((w.alloc (.cells #[.slice a0 S.nc c0, .slice a1 S.nl c1, .slice a2 S.nw c2] 107)).alloc (.cells #[.int .i64 fr, .int .i64 tto, .int .i64 ep] 130)).alloc (.cells #[strayV (w.heap.size + 1)] 76)) w.heap.size (.slice a0 S.nc c0) (.slice a1 S.nl c1) (.slice a2 S.nw c2) ∧ Below w.heap.size w (((w.alloc (.cells #[.slice a0 S.nc c0, .slice a1 S.nl c1, .slice a2 S.nw c2] 107)).alloc (.cells #[.int .i64 fr, .int .i64 tto, .int .i64 ep] 130)).alloc (.cells #[strayV (w.heap.size + 1)] 76))) := ⟨((Blk3.new w _ _ _ _).alloc _).alloc _, ((below_alloc _ _).alloc (by simp) _).alloc (by simp; omega) _⟩
  have hst := fun (W : World) (a : Addr) => run_store Tryz.prog W a (strayV (w.heap.size + 1)) .plain rfl
  have hex : strayV (w.heap.size + 1) = .func (.func 138) #[] #[.pointer (some ⟨w.heap.size + 1, 0, none⟩)] := rfl
  rw [hex] at HE HK hst
  clear hex
  go_enter Tryz.func96, Tryz.ntmps96
  go_wp2_with fail
  obtain ⟨⟨p0, p1, p2⟩, _⟩ := HK.out.1
  refine (containsStrayCell_is (w.heap.size + 1) (w.heap.size + 2) fr tto B S.nc S.c _ _ (H.out.1.later HK.out.2) HT.out.1 HE.out).mono ?_
  rw [HX.out.1]
  rintro e w1 ⟨rfl, q1⟩
  have HE1 : Hid (StrE (w.heap.size + 1) (w.heap.size + 2) fr tto w1) := HE.out.later q1
  have HK1 : Hid (Blk3 w1 w.heap.size (.slice a0 S.nc c0) (.slice a1 S.nl c1) (.slice a2 S.nw c2) ∧ Below w.heap.size w w1) := ⟨HK.out.1.later q1, HK.out.2.trans (q1.mono HK.out.2.size)⟩
  clear q1 p0 p1 p2 HE HK
  obtain ⟨⟨p0, p1, p2⟩, _⟩ := HK1.out.1
  cases x0 with
  | true =>
    have E : Hid (decide (strayS S fr tto) = true) := HS.out
    clear HS HX
    go_wp2
    go_ret
    exact ⟨by rw [E.out]; rfl, HK1.out.2⟩
  | false =>
  go_wp2_with fail
  refine (containsStrayLock_is (w.heap.size + 1) (w.heap.size + 2) fr tto B S.nl S.l _ _ (H.out.2.1.later HK1.out.2) HT.out.2.1 HE1.out).mono ?_
  rw [HX.out.2.1]
  rintro e w2 ⟨rfl, q1⟩
  have HE2 : Hid (StrE (w.heap.size + 1) (w.heap.size + 2) fr tto w2) := HE1.out.later q1
  have HK2 : Hid (Blk3 w2 w.heap.size (.slice a0 S.nc c0) (.slice a1 S.nl c1) (.slice a2 S.nw c2) ∧ Below w.heap.size w w2) := ⟨HK1.out.1.later q1, HK1.out.2.trans (q1.mono HK1.out.2.size)⟩
  clear q1 p0 p1 p2 HE1 HK1
  obtain ⟨⟨p0, p1, p2⟩, _⟩ := HK2.out.1
  cases x1 with
  | true =>
    have E : Hid (decide (strayS S fr tto) = true) := HS.out
    clear HS HX
    go_wp2
    go_ret
    exact ⟨by rw [E.out]; rfl, HK2.out.2⟩
  | false =>
  go_wp2_with fail
  refine (containsStrayWrite_is (w.heap.size + 1) (w.heap.size + 2) fr tto B S.nw S.k _ _ (H.out.2.2.later HK2.out.2) HT.out.2.2 HE2.out).mono ?_
  rw [HX.out.2.2]
  rintro e w3 ⟨rfl, q1⟩
  have HB : Hid (Below w.heap.size w w3) := HK2.out.2.trans (q1.mono HK2.out.2.size)
  have E : Hid (decide (strayS S fr tto) = x2) := HS.out
  clear q1 HS HX HE2 HK2 p0 p1 p2
  go_wp2
  go_ret
  exact ⟨by rw [E.out]; rfl, HB.out⟩
end Go.Proofs.YtdbcmckoiacemaaGreat

namespace Go.Proofs.YtdbcmckoiacemaaGreat
open Go.RowKit

/-- All numbers of the first k rows. -/
def allL (m : Nat) (N : Nat → Nat) (F : Nat → Nat → Int) : Nat → List Int
  | 0 => []
  | k + 1 => allL m N F k ++ nums (F k) (N k * m)
theorem all_len (m : Nat) (N : Nat → Nat) (F : Nat → Nat → Int) : ∀ k, (allL m N F k).length = sumN N k * m
  | 0 => by simp [allL, sumN]
  | k + 1 => by
    show (allL m N F k ++ nums (F k) (N k * m)).length = (sumN N k + N k) * m
    rw [List.length_append, nums_length, all_len m N F k, Nat.add_mul]
/-- All stores as one. -/
def unionS (n : Nat) (S : Nat → Sto) : Sto := ⟨sumN (fun i => (S i).nc) n, fun p => (allL 3 (fun i => (S i).nc) (fun i => (S i).c) n).getD p 0, sumN (fun i => (S i).nl) n, fun p => (allL 5 (fun i => (S i).nl) (fun i => (S i).l) n).getD p 0, sumN (fun i => (S i).nw) n, fun p => (allL 4 (fun i => (S i).nw) (fun i => (S i).k) n).getD p 0⟩
def ApaO (u v : Value) : Prop := ∀ q, u.ownBlock = some q → v.ownBlock ≠ some q
/-- Three rows under way: they lie in block b, each is owned from block B on, and they lie apart. -/
structure Tog (w x : World) (b B : Nat) (u0 u1 u2 : Value) (n0 n1 n2 : Nat) (L0 L1 L2 : List Int) : Prop where
  below : Below w.heap.size w x
  blk : Blk3 x b u0 u1 u2
  lo : w.heap.size ≤ b ∧ b < B ∧ B ≤ x.heap.size
  o0 : OwnM x B 216 3 u0 n0 L0
  o1 : OwnM x B 173 5 u1 n1 L1
  o2 : OwnM x B 102 4 u2 n2 L2
  a01 : ApaO u0 u1
  a02 : ApaO u0 u2
  a12 : ApaO u1 u2
theorem Tog.later {w x x' : World} {b B : Nat} {u0 u1 u2 : Value} {n0 n1 n2 : Nat} {L0 L1 L2 : List Int} (h : Tog w x b B u0 u1 u2 n0 n1 n2 L0 L1 L2) (hb : Below x.heap.size x x') : Tog w x' b B u0 u1 u2 n0 n1 n2 L0 L1 L2 :=
  ⟨h.below.trans (hb.mono h.below.size), h.blk.later hb, ⟨h.lo.1, h.lo.2.1, Nat.le_trans h.lo.2.2 hb.size⟩, h.o0.later hb, h.o1.later hb, h.o2.later hb, h.a01, h.a02, h.a12⟩
theorem ApaO.symm {u v : Value} (h : ApaO u v) : ApaO v u := fun q h1 h2 => h q h2 h1
/-- A row that is apart from one that has grown. -/
theorem OwnM.past {x x' : World} {B : Nat} {e : TypeId} {m : Nat} {u v : Value} {n : Nat} {L : List Int} (h : OwnM x B e m v n L) (hg : x.grownBy x' u.ownBlock) (ha : ApaO u v) : OwnM x' B e m v n L :=
  h.keptB (fun k hk => hg.block k (h.block k hk).2 (fun q => ha k q.symm hk))
theorem ApaO.moved {x : World} {B : Nat} {e : TypeId} {m : Nat} {u u' v : Value} {n : Nat} {L : List Int} (h : ApaO u v) (hv : OwnM x B e m v n L) (ho : u'.ownBlock = u.ownBlock ∨ u'.ownBlock = some x.heap.size) : ApaO u' v := fun q h1 h2 => by
  rcases ho with e | e
  · exact h q (e ▸ h1) h2
  · rw [e] at h1
    have := (hv.block q h2).2
    simp at h1
    omega
theorem blk_past {x x' : World} {b B : Nat} {e : TypeId} {m : Nat} {u : Value} {n : Nat} {L : List Int} {a0 a1 a2 : Value} (h : Blk3 x b a0 a1 a2) (hu : OwnM x B e m u n L) (hb : b < B) (hg : x.grownBy x' u.ownBlock) : Blk3 x' b a0 a1 a2 :=
  h.kept (hg.block b h.lt (fun q => by have := (hu.block b q.symm).1; omega))
theorem below_past {w x x' : World} {B : Nat} {e : TypeId} {m : Nat} {u : Value} {n : Nat} {L : List Int} (h : Below w.heap.size w x) (hu : OwnM x B e m u n L) (hB : w.heap.size ≤ B) (hg : x.grownBy x' u.ownBlock) : Below w.heap.size w x' :=
  ⟨hg.os.trans h.os, hg.tape.trans h.tape, hg.output.trans h.output, Nat.le_trans h.size hg.size, fun i hi => (hg.block i (Nat.lt_of_lt_of_le hi h.size) (fun q => by have := (hu.block i q.symm).1; omega)).trans (h.block i hi)⟩
theorem Tog.put0 {w x x' : World} {b B : Nat} {u0 u1 u2 u : Value} {n0 n1 n2 k : Nat} {L0 L1 L2 L : List Int} (h : Tog w x b B u0 u1 u2 n0 n1 n2 L0 L1 L2) (ho : OwnM x' B 216 3 u k L) (hg : x.grownBy x' u0.ownBlock) (hat : u.ownBlock = u0.ownBlock ∨ u.ownBlock = some x.heap.size) : Tog w (x'.setCell ⟨b, 0, none⟩ u) b B u u1 u2 k n1 n2 L L1 L2 :=
  ⟨(below_past h.below h.o0 (by have := h.lo; omega) hg).setCell h.lo.1 _, (blk_past h.blk h.o0 h.lo.2.1 hg).set0 _, ⟨h.lo.1, h.lo.2.1, by have := h.lo.2.2; have := hg.size; simp [World.setCell]; omega⟩, ho.far h.lo.2.1 _, (h.o1.past hg h.a01).far h.lo.2.1 _, (h.o2.past hg h.a02).far h.lo.2.1 _, h.a01.moved h.o1 hat, h.a02.moved h.o2 hat, h.a12⟩
theorem Tog.put1 {w x x' : World} {b B : Nat} {u0 u1 u2 u : Value} {n0 n1 n2 k : Nat} {L0 L1 L2 L : List Int} (h : Tog w x b B u0 u1 u2 n0 n1 n2 L0 L1 L2) (ho : OwnM x' B 173 5 u k L) (hg : x.grownBy x' u1.ownBlock) (hat : u.ownBlock = u1.ownBlock ∨ u.ownBlock = some x.heap.size) : Tog w (x'.setCell ⟨b, 1, none⟩ u) b B u0 u u2 n0 k n2 L0 L L2 :=
  ⟨(below_past h.below h.o1 (by have := h.lo; omega) hg).setCell h.lo.1 _, (blk_past h.blk h.o1 h.lo.2.1 hg).set1 _, ⟨h.lo.1, h.lo.2.1, by have := h.lo.2.2; have := hg.size; simp [World.setCell]; omega⟩, (h.o0.past hg h.a01.symm).far h.lo.2.1 _, ho.far h.lo.2.1 _, (h.o2.past hg h.a12).far h.lo.2.1 _, (h.a01.symm.moved h.o0 hat).symm, h.a02, h.a12.moved h.o2 hat⟩
theorem Tog.put2 {w x x' : World} {b B : Nat} {u0 u1 u2 u : Value} {n0 n1 n2 k : Nat} {L0 L1 L2 L : List Int} (h : Tog w x b B u0 u1 u2 n0 n1 n2 L0 L1 L2) (ho : OwnM x' B 102 4 u k L) (hg : x.grownBy x' u2.ownBlock) (hat : u.ownBlock = u2.ownBlock ∨ u.ownBlock = some x.heap.size) : Tog w (x'.setCell ⟨b, 2, none⟩ u) b B u0 u1 u n0 n1 k L0 L1 L :=
  ⟨(below_past h.below h.o2 (by have := h.lo; omega) hg).setCell h.lo.1 _, (blk_past h.blk h.o2 h.lo.2.1 hg).set2 _, ⟨h.lo.1, h.lo.2.1, by have := h.lo.2.2; have := hg.size; simp [World.setCell]; omega⟩, (h.o0.past hg h.a02.symm).far h.lo.2.1 _, (h.o1.past hg h.a12.symm).far h.lo.2.1 _, ho.far h.lo.2.1 _, h.a01, (h.a02.symm.moved h.o0 hat).symm, (h.a12.symm.moved h.o1 hat).symm⟩
theorem apartD_apa {x : World} {B0 B1 : Nat} {R : Sto} {u0 u1 u2 : Value} (r0 : Row x B0 3 R.nc R.c u0) (r1 : Row x B1 5 R.nl R.l u1) (h01 : ApaO u0 u1) (h02 : ApaO u0 u2) (h12 : ApaO u1 u2) : ApartD R u0 u1 u2 := by
  have own : ∀ {B m n : Nat} {F : Nat → Int} {u : Value}, Row x B m n F u → 0 < n → ∃ k, u.ownBlock = some k := fun hr hn => by
    obtain ⟨ao, cp, rfl, hr⟩ := hr
    obtain ⟨g, o, rfl, _⟩ := hr hn
    exact ⟨g, rfl⟩
  refine ⟨fun h0 _ e => ?_, fun h0 _ e => ?_, fun h1 _ e => ?_⟩
  · obtain ⟨k, hk⟩ := own r0 h0
    exact h01 k hk (e ▸ hk)
  · obtain ⟨k, hk⟩ := own r0 h0
    exact h02 k hk (e ▸ hk)
  · obtain ⟨k, hk⟩ := own r1 h1
    exact h12 k hk (e ▸ hk)
set_option maxRecDepth 100000 in
set_option maxHeartbeats 8000000 in
theorem together_any (n : Nat) (S : Nat → Sto) (V : Nat → Nat → Value) (v : Value) (B : Nat) (w : World) (h : Stos w B n S V v) (hn : n ≤ 6) (hs : ∀ i, i < n → (S i).nc ≤ 200 ∧ (S i).nl ≤ 200 ∧ (S i).nw ≤ 200) :
    Calls Tryz.prog 97 #[v] w (NewSto w (unionS n S)) := by
  obtain ⟨ao, cp, rfl⟩ := h.form
  have H : Hid (Stos w B n S V (.slice ao n cp)) := h
  have HN : Hid (∀ i, i < n → (S i).nc ≤ 200 ∧ (S i).nl ≤ 200 ∧ (S i).nw ≤ 200) := hs
  clear h hs
  go_enter Tryz.func97, Tryz.ntmps97
  go_wp2
  go_loopw [8] (fun i wr => ∃ (k p0 p1 p2 : Nat) (a0 a1 a2 : Option Addr) (c0 c1 c2 : Nat), k ≤ n ∧ i = .int .i64 k ∧ Hid (p0 = sumN (fun i => (S i).nc) k ∧ p1 = sumN (fun i => (S i).nl) k ∧ p2 = sumN (fun i => (S i).nw) k) ∧ Hid (Tog w wr (w.heap.size + 1) (w.heap.size + 2) (.slice a0 p0 c0) (.slice a1 p1 c1) (.slice a2 p2 c2) p0 p1 p2 (allL 3 (fun i => (S i).nc) (fun i => (S i).c) k) (allL 5 (fun i => (S i).nl) (fun i => (S i).l) k) (allL 4 (fun i => (S i).nw) (fun i => (S i).k) k)) ∧ Hid (Blk3 wr w.heap.size (.slice none 0 0) (.slice none 0 0) (.slice none 0 0))) (fun i _ => n - (intOf i).toNat)
  case atStart =>
    refine ⟨0, 0, 0, 0, none, none, none, 0, 0, 0, Nat.zero_le _, rfl, ⟨rfl, rfl, rfl⟩, ⟨(below_alloc _ _).alloc (by simp) _, ?_, ⟨by omega, by omega, by simp⟩, OwnM.nil _ _ _ _, OwnM.nil _ _ _ _, OwnM.nil _ _ _ _, (fun q e => by cases e), (fun q e => by cases e), (fun q e => by cases e)⟩, (Blk3.new w _ _ _ _).alloc _⟩
    have := Blk3.new (w.alloc (.cells #[.slice none 0 0, .slice none 0 0, .slice none 0 0] 107)) (.slice none 0 0) (.slice none 0 0) (.slice none 0 0) 107
    rwa [World.size_alloc] at this
  case round =>
    obtain ⟨k, p0, p1, p2, a0, a1, a2, c0, c1, c2, hk, rfl, HS, HT, HR⟩ := hrel
    have q0 : p0 ≤ 1200 := by rw [HS.out.1]; exact sum_small (fun i hi => (HN.out i hi).1) hn hk
    have q1 : p1 ≤ 1200 := by rw [HS.out.2.1]; exact sum_small (fun i hi => (HN.out i hi).2.1) hn hk
    have q2 : p2 ≤ 1200 := by rw [HS.out.2.2]; exact sum_small (fun i hi => (HN.out i hi).2.2) hn hk
    by_cases hlt : k < n
    · obtain ⟨g, o, rfl, _, hg, ⟨b0, b1, b2⟩, sk⟩ := H.out.at hlt
      replace b0 := (HT.out.below.cell (p := ⟨g, o + k * 3, none⟩) hg).trans b0
      replace b1 := (HT.out.below.cell (p := ⟨g, o + k * 3 + 1, none⟩) hg).trans b1
      replace b2 := (HT.out.below.cell (p := ⟨g, o + k * 3 + 2, none⟩) hg).trans b2
      obtain ⟨i0', d0, i1', d1, i2', d2, e0, e1, e2⟩ := sk.form
      obtain ⟨n0, hn0⟩ : ∃ x, (S k).nc = x := ⟨_, rfl⟩
      obtain ⟨n1, hn1⟩ : ∃ x, (S k).nl = x := ⟨_, rfl⟩
      obtain ⟨n2, hn2⟩ : ∃ x, (S k).nw = x := ⟨_, rfl⟩
      rw [e0, hn0] at b0
      rw [e1, hn1] at b1
      rw [e2, hn2] at b2
      have SK : Hid (Row w B 3 n0 (S k).c (.slice i0' n0 d0) ∧ Row w B 5 n1 (S k).l (.slice i1' n1 d1) ∧ Row w B 4 n2 (S k).k (.slice i2' n2 d2)) := by
        rw [e0, e1, e2] at sk
        obtain ⟨h0, h1, h2⟩ := sk
        rw [hn0] at h0
        rw [hn1] at h1
        rw [hn2] at h2
        exact ⟨h0, h1, h2⟩
      have hB := HN.out k hlt
      rw [hn0, hn1, hn2] at hB
      obtain ⟨m0, m1, m2⟩ := hB
      have HS1 : Hid (p0 + n0 = sumN (fun i => (S i).nc) (k + 1) ∧ p1 + n1 = sumN (fun i => (S i).nl) (k + 1) ∧ p2 + n2 = sumN (fun i => (S i).nw) (k + 1)) := by
        refine ⟨?_, ?_, ?_⟩
        · show _ = sumN (fun i => (S i).nc) k + (S k).nc
          rw [HS.out.1, hn0]
        · show _ = sumN (fun i => (S i).nl) k + (S k).nl
          rw [HS.out.2.1, hn1]
        · show _ = sumN (fun i => (S i).nw) k + (S k).nw
          rw [HS.out.2.2, hn2]
      obtain ⟨L0, hL0⟩ : ∃ L, allL 3 (fun i => (S i).nc) (fun i => (S i).c) k = L := ⟨_, rfl⟩
      obtain ⟨L1, hL1⟩ : ∃ L, allL 5 (fun i => (S i).nl) (fun i => (S i).l) k = L := ⟨_, rfl⟩
      obtain ⟨L2, hL2⟩ : ∃ L, allL 4 (fun i => (S i).nw) (fun i => (S i).k) k = L := ⟨_, rfl⟩
      have HL1 : Hid (L0 ++ nums (S k).c (n0 * 3) = allL 3 (fun i => (S i).nc) (fun i => (S i).c) (k + 1) ∧ L1 ++ nums (S k).l (n1 * 5) = allL 5 (fun i => (S i).nl) (fun i => (S i).l) (k + 1) ∧ L2 ++ nums (S k).k (n2 * 4) = allL 4 (fun i => (S i).nw) (fun i => (S i).k) (k + 1)) := by
        rw [← hn0, ← hn1, ← hn2, ← hL0, ← hL1, ← hL2]
        exact ⟨rfl, rfl, rfl⟩
      have HT := HT.out
      rw [hL0, hL1, hL2] at HT
      clear sk e0 e1 e2 hn0 hn1 hn2 hL0 hL1 hL2 HS
      have hq : Hid (w.heap.size + 2 ≤ wr.heap.size) := HT.lo.2.2
      have NQ : Hid ((∀ q, (Value.slice a0 p0 c0).ownBlock = some q → q ≠ wr.heap.size) ∧ (∀ q, (Value.slice a1 p1 c1).ownBlock = some q → q ≠ wr.heap.size) ∧ (∀ q, (Value.slice a2 p2 c2).ownBlock = some q → q ≠ wr.heap.size)) := ⟨fun q e => by have := (HT.o0.block q e).2; omega, fun q e => by have := (HT.o1.block q e).2; omega, fun q e => by have := (HT.o2.block q e).2; omega⟩
      have TT : Hid (Tog w (wr.alloc (.cells #[.slice i0' n0 d0, .slice i1' n1 d1, .slice i2' n2 d2] 107)) (w.heap.size + 1) (w.heap.size + 2) (.slice a0 p0 c0) (.slice a1 p1 c1) (.slice a2 p2 c2) p0 p1 p2 L0 L1 L2) := HT.later (below_alloc _ _)
      have Q1 : Hid (Blk3 (wr.alloc (.cells #[.slice i0' n0 d0, .slice i1' n1 d1, .slice i2' n2 d2] 107)) wr.heap.size (.slice i0' n0 d0) (.slice i1' n1 d1) (.slice i2' n2 d2)) := Blk3.new _ _ _ _ _
      have RB : Hid (Blk3 (wr.alloc (.cells #[.slice i0' n0 d0, .slice i1' n1 d1, .slice i2' n2 d2] 107)) w.heap.size (.slice none 0 0) (.slice none 0 0) (.slice none 0 0)) := HR.out.alloc _
      clear HT HR
      go_upto_region 5 with fail
      generalize wr.alloc (.cells #[.slice i0' n0 d0, .slice i1' n1 d1, .slice i2' n2 d2] 107) = x1 at TT Q1 RB ⊢
      clear b0 b1 b2
      generalize wr.heap.size = q at hq NQ Q1 ⊢
      obtain ⟨⟨t0, t1, t2⟩, ft0, ft1, ft2⟩ := TT.out.blk
      obtain ⟨⟨s0, s1, s2⟩, _⟩ := Q1.out
      obtain ⟨i0, hi, hz0, hz1, hz2⟩ := info_parts info_Cell
      have hbs : w.heap.size + 2 ≤ x1.heap.size := TT.out.lo.2.2
      go_upto_region 6 with (at_builtin; refine wpList_appL 216 i0 (.agg #[.int .i64 0, .int .i64 0, .int .i64 0]) 3 24 rfl _ _ 103 rfl Tryz.underlying103 hi hz0 hz1 hz2 rfl (by omega) (by omega) _ (w.heap.size + 2) p0 _ (.slice a0 p0 c0) rfl TT.out.o0 B n0 _ _ rfl (SK.out.1.later TT.out.below) (by omega) hbs ?_; intro ao0 cp0 y OY GY AY; obtain ⟨⟨t0, t1, t2⟩, ft0, ft1, ft2⟩ := blk_past TT.out.blk TT.out.o0 TT.out.lo.2.1 GY)
      have TT' : Hid (Tog w (y.setCell ⟨w.heap.size + 1, 0, none⟩ (.slice ao0 (p0 + n0) cp0)) (w.heap.size + 1) (w.heap.size + 2) (.slice ao0 (p0 + n0) cp0) (.slice a1 p1 c1) (.slice a2 p2 c2) (p0 + n0) p1 p2 (L0 ++ nums (S k).c (n0 * 3)) L1 L2) := TT.out.put0 OY GY AY
      have Q1' : Hid (Blk3 (y.setCell ⟨w.heap.size + 1, 0, none⟩ (.slice ao0 (p0 + n0) cp0)) q (.slice i0' n0 d0) (.slice i1' n1 d1) (.slice i2' n2 d2)) := (Q1.out.kept (GY.block q Q1.out.lt (fun e => NQ.out.1 q e.symm rfl))).setFar (by show q ≠ w.heap.size + 1; have := hq.out; omega) _
      have RB' : Hid (Blk3 (y.setCell ⟨w.heap.size + 1, 0, none⟩ (.slice ao0 (p0 + n0) cp0)) w.heap.size (.slice none 0 0) (.slice none 0 0) (.slice none 0 0)) := (blk_past RB.out TT.out.o0 (by omega) GY).setFar (by simp) _
      generalize y.setCell ⟨w.heap.size + 1, 0, none⟩ (.slice ao0 (p0 + n0) cp0) = z0 at TT' Q1' RB' ⊢
      clear TT Q1 RB t0 t1 t2 ft0 ft1 ft2 s0 s1 s2 OY GY AY hi hz0 hz1 hz2 hbs i0
      have TT := TT'
      have Q1 := Q1'
      have RB := RB'
      clear TT' Q1' RB'
      obtain ⟨⟨t0, t1, t2⟩, ft0, ft1, ft2⟩ := TT.out.blk
      obtain ⟨⟨s0, s1, s2⟩, _⟩ := Q1.out
      obtain ⟨i0, hi, hz0, hz1, hz2⟩ := info_parts info_Lock
      have hbs : w.heap.size + 2 ≤ z0.heap.size := TT.out.lo.2.2
      go_upto_region 7 with (at_builtin; refine wpList_appL 173 i0 (.agg #[.int .i64 0, .int .i64 0, .int .i64 0, .int .i64 0, .int .i64 0]) 5 40 rfl _ _ 104 rfl Tryz.underlying104 hi hz0 hz1 hz2 rfl (by omega) (by omega) _ (w.heap.size + 2) p1 _ (.slice a1 p1 c1) rfl TT.out.o1 B n1 _ _ rfl (SK.out.2.1.later TT.out.below) (by omega) hbs ?_; intro ao1 cp1 y OY GY AY; obtain ⟨⟨t0, t1, t2⟩, ft0, ft1, ft2⟩ := blk_past TT.out.blk TT.out.o1 TT.out.lo.2.1 GY)
      have TT' : Hid (Tog w (y.setCell ⟨w.heap.size + 1, 1, none⟩ (.slice ao1 (p1 + n1) cp1)) (w.heap.size + 1) (w.heap.size + 2) (.slice ao0 (p0 + n0) cp0) (.slice ao1 (p1 + n1) cp1) (.slice a2 p2 c2) (p0 + n0) (p1 + n1) p2 (L0 ++ nums (S k).c (n0 * 3)) (L1 ++ nums (S k).l (n1 * 5)) L2) := TT.out.put1 OY GY AY
      have Q1' : Hid (Blk3 (y.setCell ⟨w.heap.size + 1, 1, none⟩ (.slice ao1 (p1 + n1) cp1)) q (.slice i0' n0 d0) (.slice i1' n1 d1) (.slice i2' n2 d2)) := (Q1.out.kept (GY.block q Q1.out.lt (fun e => NQ.out.2.1 q e.symm rfl))).setFar (by show q ≠ w.heap.size + 1; have := hq.out; omega) _
      have RB' : Hid (Blk3 (y.setCell ⟨w.heap.size + 1, 1, none⟩ (.slice ao1 (p1 + n1) cp1)) w.heap.size (.slice none 0 0) (.slice none 0 0) (.slice none 0 0)) := (blk_past RB.out TT.out.o1 (by omega) GY).setFar (by simp) _
      generalize y.setCell ⟨w.heap.size + 1, 1, none⟩ (.slice ao1 (p1 + n1) cp1) = z1 at TT' Q1' RB' ⊢
      clear TT Q1 RB t0 t1 t2 ft0 ft1 ft2 s0 s1 s2 OY GY AY hi hz0 hz1 hz2 hbs i0
      have TT := TT'
      have Q1 := Q1'
      have RB := RB'
      clear TT' Q1' RB'
      obtain ⟨⟨t0, t1, t2⟩, ft0, ft1, ft2⟩ := TT.out.blk
      obtain ⟨⟨s0, s1, s2⟩, _⟩ := Q1.out
      obtain ⟨i0, hi, hz0, hz1, hz2⟩ := info_parts info_Write
      have hbs : w.heap.size + 2 ≤ z1.heap.size := TT.out.lo.2.2
      go_upto_region 8 with (at_builtin; refine wpList_appL 102 i0 (.agg #[.int .i64 0, .int .i64 0, .int .i64 0, .int .i64 0]) 4 32 rfl _ _ 105 rfl Tryz.underlying105 hi hz0 hz1 hz2 rfl (by omega) (by omega) _ (w.heap.size + 2) p2 _ (.slice a2 p2 c2) rfl TT.out.o2 B n2 _ _ rfl (SK.out.2.2.later TT.out.below) (by omega) hbs ?_; intro ao2 cp2 y OY GY AY; obtain ⟨⟨t0, t1, t2⟩, ft0, ft1, ft2⟩ := blk_past TT.out.blk TT.out.o2 TT.out.lo.2.1 GY)
      have TT' : Hid (Tog w (y.setCell ⟨w.heap.size + 1, 2, none⟩ (.slice ao2 (p2 + n2) cp2)) (w.heap.size + 1) (w.heap.size + 2) (.slice ao0 (p0 + n0) cp0) (.slice ao1 (p1 + n1) cp1) (.slice ao2 (p2 + n2) cp2) (p0 + n0) (p1 + n1) (p2 + n2) (L0 ++ nums (S k).c (n0 * 3)) (L1 ++ nums (S k).l (n1 * 5)) (L2 ++ nums (S k).k (n2 * 4))) := TT.out.put2 OY GY AY
      have Q1' : Hid (Blk3 (y.setCell ⟨w.heap.size + 1, 2, none⟩ (.slice ao2 (p2 + n2) cp2)) q (.slice i0' n0 d0) (.slice i1' n1 d1) (.slice i2' n2 d2)) := (Q1.out.kept (GY.block q Q1.out.lt (fun e => NQ.out.2.2 q e.symm rfl))).setFar (by show q ≠ w.heap.size + 1; have := hq.out; omega) _
      have RB' : Hid (Blk3 (y.setCell ⟨w.heap.size + 1, 2, none⟩ (.slice ao2 (p2 + n2) cp2)) w.heap.size (.slice none 0 0) (.slice none 0 0) (.slice none 0 0)) := (blk_past RB.out TT.out.o2 (by omega) GY).setFar (by simp) _
      generalize y.setCell ⟨w.heap.size + 1, 2, none⟩ (.slice ao2 (p2 + n2) cp2) = z2 at TT' Q1' RB' ⊢
      clear TT Q1 RB t0 t1 t2 ft0 ft1 ft2 s0 s1 s2 OY GY AY hi hz0 hz1 hz2 hbs i0
      have TT := TT'
      have Q1 := Q1'
      have RB := RB'
      clear TT' Q1' RB'
      rw [HL1.out.1, HL1.out.2.1, HL1.out.2.2] at TT
      clear Q1 NQ hq SK HL1
      go_wp2
      go_roundw
      case rel => exact ⟨k + 1, p0 + n0, p1 + n1, p2 + n2, ao0, ao1, ao2, cp0, cp1, cp2, by omega, by go_num, HS1, TT, RB⟩
      case measure => simp [intOf]; omega
    · obtain rfl : k = n := by omega
      obtain ⟨⟨t0, t1, t2⟩, ft0, ft1, ft2⟩ := HT.out.blk
      obtain ⟨⟨r0, r1, r2⟩, f0, f1, f2⟩ := HR.out
      have HE : Hid (unionS k S = ⟨p0, fun p => (allL 3 (fun i => (S i).nc) (fun i => (S i).c) k).getD p 0, p1, fun p => (allL 5 (fun i => (S i).nl) (fun i => (S i).l) k).getD p 0, p2, fun p => (allL 4 (fun i => (S i).nw) (fun i => (S i).k) k).getD p 0⟩) := by
        unfold Hid unionS
        rw [← HS.out.1, ← HS.out.2.1, ← HS.out.2.2]
      have o0 := (HT.out.o0.own (by rw [all_len, HS.out.1])).row
      have o1 := (HT.out.o1.own (by rw [all_len, HS.out.2.1])).row
      have o2 := (HT.out.o2.own (by rw [all_len, HS.out.2.2])).row
      have HO : Hid (St wr (w.heap.size + 2) (unionS k S) (.slice a0 p0 c0) (.slice a1 p1 c1) (.slice a2 p2 c2) ∧ FreeS wr (unionS k S) (.slice a0 p0 c0) (.slice a1 p1 c1) (.slice a2 p2 c2) ∧ ApartD (unionS k S) (.slice a0 p0 c0) (.slice a1 p1 c1) (.slice a2 p2 c2)) := by
        rw [HE.out]
        exact ⟨⟨o0.1, o1.1, o2.1⟩, ⟨o0.2, o1.2, o2.2⟩, apartD_apa o0.1 o1.1 HT.out.a01 HT.out.a02 HT.out.a12⟩
      have hn0 : Hid ((unionS k S).nc = p0 ∧ (unionS k S).nl = p1 ∧ (unionS k S).nw = p2) := by rw [HE.out]; exact ⟨rfl, rfl, rfl⟩
      clear o0 o1 o2 HE HS
      unfold NewSto
      go_wp2
      refine bodyPost_ret (v := .agg #[.slice a0 p0 c0, .slice a1 p1 c1, .slice a2 p2 c2]) (by simp [results, Tryz.results97, go_sem, r0, r1, r2]) rfl ?_
      have hlo : w.heap.size < w.heap.size + 2 := by omega
      refine ⟨a0, c0, a1, c1, a2, c2, ?_, ?_, ((HT.out.below.setCell (Nat.le_refl _) _).setCell (Nat.le_refl _) _).setCell (Nat.le_refl _) _⟩
      · rw [hn0.out.1, hn0.out.2.1, hn0.out.2.2]
      · rw [hn0.out.1, hn0.out.2.1, hn0.out.2.2]
        exact ⟨(((HO.out.1.far hlo _).far hlo _).far hlo _).mono (by omega), ((HO.out.2.1.far _ _).far _ _).far _ _, HO.out.2.2⟩
end Go.Proofs.YtdbcmckoiacemaaGreat

namespace Go.Proofs.YtdbcmckoiacemaaGreat
section
open Go.RowKit
/-- The call's blocks: the groups that it was given. -/
def CallG (w : World) (nr : Nat) (F : Nat → Int) (n : Nat) (S : Nat → Sto) (V : Nat → Nat → Value) (B : Nat) (vr vs : Value) (x : World) : Prop := Blk2 x w.heap.size vr vs ∧ Grs x B nr F n S V vr vs ∧ Below w.heap.size w x
theorem CallG.new {w : World} {nr : Nat} {F : Nat → Int} {n : Nat} {S : Nat → Sto} {V : Nat → Nat → Value} {B : Nat} {vr vs : Value} (h : Grs w B nr F n S V vr vs) (t : TypeId) : CallG w nr F n S V B vr vs (w.alloc (.cells #[vr, vs] t)) := ⟨Blk2.new _ _ _ _, h.alloc _, below_alloc _ _⟩
theorem CallG.later {w x x' : World} {nr : Nat} {F : Nat → Int} {n : Nat} {S : Nat → Sto} {V : Nat → Nat → Value} {B : Nat} {vr vs : Value} (h : CallG w nr F n S V B vr vs x) (hb : Below x.heap.size x x') : CallG w nr F n S V B vr vs x' := ⟨h.1.later hb, h.2.1.later hb, h.2.2.trans (hb.mono h.2.2.size)⟩
def RngE7 (w : World) (gr oR k : Nat) (fr tto ep : Int) (a0 : Option Addr) (n c0 : Nat) (q : Nat) (s0 s1 s2 : Value) (x : World) : Prop :=
  Below w.heap.size w x ∧ x.cell? ⟨w.heap.size, 0, none⟩ = some (.slice a0 n c0) ∧ (x.cell? ⟨gr, oR + k * 3, none⟩ = some (.int .i64 fr) ∧ x.cell? ⟨gr, oR + k * 3 + 1, none⟩ = some (.int .i64 tto) ∧ x.cell? ⟨gr, oR + k * 3 + 2, none⟩ = some (.int .i64 ep)) ∧ x.cell? ⟨q, 0, none⟩ = some s0 ∧ x.cell? ⟨q, 1, none⟩ = some s1 ∧ x.cell? ⟨q, 2, none⟩ = some s2
set_option maxRecDepth 100000 in
set_option maxHeartbeats 8000000 in
theorem implGroupsFault_any (nr : Nat) (F : Nat → Int) (n : Nat) (S : Nat → Sto) (V : Nat → Nat → Value) (vr vs : Value) (B : Nat) (w : World) (h : Grs w B nr F n S V vr vs) (hr : nr ≤ 9223372036854775807) (hn : n ≤ 9223372036854775807) :
    Calls Tryz.prog 57 #[.agg #[vr, vs]] w fun e w' => e = .returned (.int .i64 (groupsF nr F n S)) ∧ Below w.heap.size w w' := by
  obtain ⟨a0, c0, a1, c1, rfl, rfl⟩ := h.form
  have H : Hid (CallG w nr F n S V B (.slice a0 nr c0) (.slice a1 n c1) (w.alloc (.cells #[.slice a0 nr c0, .slice a1 n c1] 40))) := CallG.new h _
  clear h
  obtain ⟨⟨p0, p1⟩, _⟩ := H.out.1
  obtain ⟨f, hf⟩ : ∃ f, rangesF nr F = f := ⟨_, rfl⟩
  have HF : Hid (rangesF nr F = f) := hf
  go_enter Tryz.func57, Tryz.ntmps57
  go_wp2_with fail
  refine (implRanges_any _ B nr F _ H.out.2.1.1 hr).mono ?_
  rw [hf]
  rintro e w1 ⟨rfl, q1⟩
  have H1 : Hid (CallG w nr F n S V B (.slice a0 nr c0) (.slice a1 n c1) w1) := H.out.later q1
  clear q1 hf p0 p1 H
  by_cases hz : f = 0
  case neg =>
    have d : (f == 0) = false := beq_eq_false_iff_ne.2 hz
    have d' : (f != 0) = true := bne_iff_ne.2 hz
    have E : Hid (groupsF nr F n S = f) := by unfold Hid groupsF; rw [HF.out, if_pos hz]
    clear hz HF
    go_wp2
    go_ret
    exact ⟨by rw [E.out]; rfl, H1.out.2.2⟩
  subst hz
  have G : Hid (Good nr F) := good_of HF.out
  obtain ⟨⟨p0, p1⟩, _⟩ := H1.out.1
  by_cases hnn : n = nr
  case neg =>
    have d : ((n : Int) != (nr : Int)) = true := bne_iff_ne.2 (by omega)
    have E : Hid (groupsF nr F n S = 1) := by unfold Hid groupsF; rw [HF.out, if_neg (by decide), if_pos hnn]
    clear HF hnn
    go_wp2
    go_ret
    exact ⟨by rw [E.out]; rfl, H1.out.2.2⟩
  have HG : Hid (groupsF nr F n S = if scan (oneF F S) n ≠ 0 then scan (oneF F S) n else if fullG n S then 2 else 0) := by unfold Hid groupsF; rw [HF.out, if_neg (by decide), if_neg (fun q => q hnn)]
  have hn6 : n ≤ 6 := by have := G.out.n6; omega
  subst hnn
  clear HF
  go_wp2
  clear p0 p1
  go_loopw [24] (fun i wr => ∃ k : Nat, k ≤ n ∧ i = .int .i64 k ∧ Hid (scan (oneF F S) k = 0) ∧ Hid (CallG w n F n S V B (.slice a0 n c0) (.slice a1 n c1) wr)) (fun i _ => n - (intOf i).toNat)
  case atStart => exact ⟨0, Nat.zero_le _, rfl, rfl, H1⟩
  case round =>
    obtain ⟨k, hk, rfl, HS, HL⟩ := hrel
    obtain ⟨⟨p0, p1⟩, _⟩ := HL.out.1
    by_cases hlt : k < n
    · obtain ⟨g, o, rfl, _, hg, ⟨b0, b1, b2⟩, sk⟩ := HL.out.2.1.2.at hlt
      obtain ⟨gr, oR, rfl, _, hgr, t0, t1, t2⟩ := HL.out.2.1.1.at3 hlt
      obtain ⟨i0', d0, i1', d1, i2', d2, e0, e1, e2⟩ := sk.form
      obtain ⟨n0, hn0⟩ : ∃ x, (S k).nc = x := ⟨_, rfl⟩
      obtain ⟨n1, hn1⟩ : ∃ x, (S k).nl = x := ⟨_, rfl⟩
      obtain ⟨n2, hn2⟩ : ∃ x, (S k).nw = x := ⟨_, rfl⟩
      rw [e0, hn0] at b0
      rw [e1, hn1] at b1
      rw [e2, hn2] at b2
      rw [e0, e1, e2, hn0, hn1, hn2] at sk
      obtain ⟨fs, hfs⟩ : ∃ x, storeF (S k) = x := ⟨_, rfl⟩
      have HFS : Hid (storeF (S k) = fs) := hfs
      have LS : Hid (St (wr.alloc (.cells #[.slice i0' n0 d0, .slice i1' n1 d1, .slice i2' n2 d2] 107)) B (S k) (.slice i0' n0 d0) (.slice i1' n1 d1) (.slice i2' n2 d2)) := sk.alloc _
      have LQ : Hid (Blk3 (wr.alloc (.cells #[.slice i0' n0 d0, .slice i1' n1 d1, .slice i2' n2 d2] 107)) wr.heap.size (.slice i0' n0 d0) (.slice i1' n1 d1) (.slice i2' n2 d2)) := Blk3.new _ _ _ _ _
      have HL1 : Hid (CallG w n F n S V B (.slice (some ⟨gr, oR, none⟩) n c0) (.slice (some ⟨g, o, none⟩) n c1) (wr.alloc (.cells #[.slice i0' n0 d0, .slice i1' n1 d1, .slice i2' n2 d2] 107))) := HL.out.later (below_alloc _ _)
      clear sk e0 e1 e2 hn0 hn1 hn2 t0 t1 t2 HL
      go_wp2_with fail
      generalize wr.alloc (.cells #[.slice i0' n0 d0, .slice i1' n1 d1, .slice i2' n2 d2] 107) = w2 at LS LQ HL1 ⊢
      generalize wr.heap.size = q at LQ ⊢
      clear b0 b1 b2 p0 p1
      refine (implFault_any (S k) _ _ _ B _ LS.out).mono ?_
      rw [hfs]
      rintro e w3 ⟨rfl, q3⟩
      have HL3 : Hid (CallG w n F n S V B (.slice (some ⟨gr, oR, none⟩) n c0) (.slice (some ⟨g, o, none⟩) n c1) w3) := HL1.out.later q3
      have LQ3 : Hid (Blk3 w3 q (.slice i0' n0 d0) (.slice i1' n1 d1) (.slice i2' n2 d2)) := LQ.out.later q3
      have LS3 : Hid (St w3 B (S k) (.slice i0' n0 d0) (.slice i1' n1 d1) (.slice i2' n2 d2)) := LS.out.later q3
      clear q3 hfs HL1 LQ LS
      by_cases hz : fs = 0
      case neg =>
        have d : (fs == 0) = false := beq_eq_false_iff_ne.2 hz
        have d' : (fs != 0) = true := bne_iff_ne.2 hz
        have E : Hid (groupsF n F n S = fs) := by
          have h1 : oneF F S k = fs := by unfold oneF; rw [HFS.out, if_pos hz]
          have h2 : scan (oneF F S) n = fs := (scan_stop HS.out (by rw [h1]; exact hz) hlt).trans h1
          unfold Hid
          rw [HG.out, h2, if_pos hz]
        clear hz HFS HG HS
        go_wp2
        go_ret
        exact ⟨by rw [E.out]; rfl, HL3.out.2.2⟩
      subst hz
      obtain ⟨gr', oR', he, _, hgr3, t0, t1, t2⟩ := HL3.out.2.1.1.at3 hlt
      simp only [Option.some.injEq, Addr.mk.injEq, and_true] at he
      obtain ⟨rfl, rfl⟩ := he
      obtain ⟨fr, hfr⟩ : ∃ x, F (k * 3) = x := ⟨_, rfl⟩
      obtain ⟨tto, hto⟩ : ∃ x, F (k * 3 + 1) = x := ⟨_, rfl⟩
      obtain ⟨ep, hep⟩ : ∃ x, F (k * 3 + 2) = x := ⟨_, rfl⟩
      rw [hfr] at t0
      rw [hto] at t1
      rw [hep] at t2
      have HFT : Hid (F (k * 3) = fr ∧ F (k * 3 + 1) = tto) := ⟨hfr, hto⟩
      clear hfr hto hep
      have Z := storeF_zero HFS.out
      have HZ : Hid ((S k).nc ≤ 200 ∧ (S k).nl ≤ 200 ∧ (S k).nw ≤ 200) := Z.1
      have RE : Hid (RngE7 w gr oR k fr tto ep (some ⟨gr, oR, none⟩) n c0 q (.slice i0' n0 d0) (.slice i1' n1 d1) (.slice i2' n2 d2) w3) := ⟨HL3.out.2.2, HL3.out.1.1.1, ⟨t0, t1, t2⟩, LQ3.out.1⟩
      clear Z t0 t1 t2
      go_wp2_with fail
      refine wp_region_held_drew (S := RngE7 w gr oR k fr tto ep (some ⟨gr, oR, none⟩) n c0 q (.slice i0' n0 d0) (.slice i1' n1 d1) (.slice i2' n2 d2)) (by kernel_rfl) ⟨below_dr RE.out.1 1, RE.out.2⟩ (fun hS => ?_)
      refine tkH 0 ?_ hS (fun wx hx => ?_) ?_; rotate_left
      · obtain ⟨_, hx0, ⟨hx1, hx2, hx3⟩, hx4, hx5, hx6⟩ := hx; go_simp; try with_reducible rfl
      refine tkH 1 ?_ hS (fun wx hx => ?_) ?_; rotate_left
      · obtain ⟨_, hx0, ⟨hx1, hx2, hx3⟩, hx4, hx5, hx6⟩ := hx; go_simp; try with_reducible rfl
      refine tkH 2 ?_ hS (fun wx hx => ?_) ?_; rotate_left
      · obtain ⟨_, hx0, ⟨hx1, hx2, hx3⟩, hx4, hx5, hx6⟩ := hx; go_simp; try with_reducible rfl
      refine tkH 3 ?_ hS (fun wx hx => ?_) ?_; rotate_left
      · obtain ⟨_, hx0, ⟨hx1, hx2, hx3⟩, hx4, hx5, hx6⟩ := hx; go_simp; try with_reducible rfl
      refine tkH 4 ?_ hS (fun wx hx => ?_) ?_; rotate_left
      · obtain ⟨_, hx0, ⟨hx1, hx2, hx3⟩, hx4, hx5, hx6⟩ := hx; go_simp; try with_reducible rfl
      refine tkH 5 ?_ hS (fun wx hx => ?_) ?_; rotate_left
      · obtain ⟨_, hx0, ⟨hx1, hx2, hx3⟩, hx4, hx5, hx6⟩ := hx; go_simp; try with_reducible rfl
      refine rdH 6 (fun K hK => ?_)
      go_simp
      go_wp2_with fail
      refine (hasStray_any (S k) _ _ _ fr tto ep B _ (LS3.out.later (below_dr (Below.refl _ _) 1)) HZ.out).mono ?_
      by_cases hst : strayS (S k) fr tto
      · rw [decide_eq_true hst]
        rintro e w4 ⟨rfl, q4⟩
        have E : Hid (groupsF n F n S = 3) := by
          have h1 : oneF F S k = 3 := by unfold oneF; rw [HFS.out, if_neg (by decide), HFT.out.1, HFT.out.2, if_pos hst]
          have h2 : scan (oneF F S) n = 3 := (scan_stop HS.out (by rw [h1]; decide) hlt).trans h1
          unfold Hid
          rw [HG.out, h2, if_pos (by decide)]
        have q4' : Below w3.heap.size w3 w4 := ⟨q4.os, q4.tape, q4.output, q4.size, q4.block⟩
        have HL4 : Hid (CallG w n F n S V B (.slice (some ⟨gr, oR, none⟩) n c0) (.slice (some ⟨g, o, none⟩) n c1) w4) := HL3.out.later q4'
        have hS' : RngE7 w gr oR k fr tto ep (some ⟨gr, oR, none⟩) n c0 q (.slice i0' n0 d0) (.slice i1' n1 d1) (.slice i2' n2 d2) w4 := ⟨HL4.out.2.2, HL4.out.1.1.1, ⟨(q4'.cell (p := ⟨gr, oR + k * 3, none⟩) hgr3).trans hS.2.2.1.1, (q4'.cell (p := ⟨gr, oR + k * 3 + 1, none⟩) hgr3).trans hS.2.2.1.2.1, (q4'.cell (p := ⟨gr, oR + k * 3 + 2, none⟩) hgr3).trans hS.2.2.1.2.2⟩, (LQ3.out.later q4').1⟩
        clear q4 q4' hst HFS HG HS
        go_wp2_with fail
        refine hK.out _ _ hS' (fun hS => ?_)
        clear hK K hS'
        refine wpAnyH_done (by kernel_rfl) ?_ _
        clear hS
        go_simp
        go_wp2
        go_ret
        exact ⟨by rw [E.out]; rfl, HL4.out.2.2⟩
      · rw [decide_eq_false hst]
        rintro e w4 ⟨rfl, q4⟩
        have HS1 : Hid (scan (oneF F S) (k + 1) = 0) := scan_go HS.out (by unfold oneF; rw [HFS.out, if_neg (by decide), HFT.out.1, HFT.out.2, if_neg hst])
        have q4' : Below w3.heap.size w3 w4 := ⟨q4.os, q4.tape, q4.output, q4.size, q4.block⟩
        have HL4 : Hid (CallG w n F n S V B (.slice (some ⟨gr, oR, none⟩) n c0) (.slice (some ⟨g, o, none⟩) n c1) w4) := HL3.out.later q4'
        have hS' : RngE7 w gr oR k fr tto ep (some ⟨gr, oR, none⟩) n c0 q (.slice i0' n0 d0) (.slice i1' n1 d1) (.slice i2' n2 d2) w4 := ⟨HL4.out.2.2, HL4.out.1.1.1, ⟨(q4'.cell (p := ⟨gr, oR + k * 3, none⟩) hgr3).trans hS.2.2.1.1, (q4'.cell (p := ⟨gr, oR + k * 3 + 1, none⟩) hgr3).trans hS.2.2.1.2.1, (q4'.cell (p := ⟨gr, oR + k * 3 + 2, none⟩) hgr3).trans hS.2.2.1.2.2⟩, (LQ3.out.later q4').1⟩
        clear q4 q4' hst HFS HS
        go_wp2_with fail
        refine hK.out _ _ hS' (fun hS => ?_)
        clear hK K hS'
        refine wpAnyH_done (by kernel_rfl) ?_ _
        clear hS
        go_simp
        go_wp2
        go_roundw
        case rel => exact ⟨k + 1, by omega, by go_num, HS1, HL4⟩
        case measure => simp [intOf]; omega
    · obtain rfl : k = n := by omega
      have HSS : Hid (∀ i, i < k → (S i).nc ≤ 200 ∧ (S i).nl ≤ 200 ∧ (S i).nw ≤ 200) := fun i hi => by
        have h1 := scan_zero HS.out i hi
        unfold oneF at h1
        split at h1
        · rename_i q; exact absurd h1 q
        · rename_i q; exact (storeF_zero (Classical.not_not.1 q)).1
      have E : Hid (groupsF k F k S = if fullG k S then 2 else 0) := by unfold Hid; rw [HG.out, HS.out, if_neg (by decide)]
      clear HS HG hlt
      go_wp2_with fail
      refine (together_any k S V _ B _ HL.out.2.1.2 hn6 HSS.out).mono ?_
      rintro e w4 ⟨x0, y0, x1, y1, x2, y2, rfl, _, q4⟩
      obtain ⟨m0, hm0⟩ : ∃ x, (unionS k S).nc = x := ⟨_, rfl⟩
      obtain ⟨m1, hm1⟩ : ∃ x, (unionS k S).nl = x := ⟨_, rfl⟩
      obtain ⟨m2, hm2⟩ : ∃ x, (unionS k S).nw = x := ⟨_, rfl⟩
      rw [hm0, hm1, hm2]
      have HFU : Hid (fullG k S ↔ (200 < m0 ∨ 200 < m1 ∨ 200 < m2)) := by rw [← hm0, ← hm1, ← hm2]; exact Iff.rfl
      have B4 : Below w.heap.size w w4 := HL.out.2.2.trans (q4.mono HL.out.2.2.size)
      have B5 : Hid (Below w.heap.size w (w4.alloc (.cells #[.slice x0 m0 y0, .slice x1 m1 y1, .slice x2 m2 y2] 107)) ∧ Blk3 (w4.alloc (.cells #[.slice x0 m0 y0, .slice x1 m1 y1, .slice x2 m2 y2] 107)) w4.heap.size (.slice x0 m0 y0) (.slice x1 m1 y1) (.slice x2 m2 y2)) := ⟨B4.trans ((below_alloc _ _).mono B4.size), Blk3.new _ _ _ _ _⟩
      clear q4 hm0 hm1 hm2 B4 p0 p1 HSS
      obtain ⟨⟨z0, z1, z2⟩, _⟩ := B5.out.2
      by_cases r0 : 200 < m0
      · have d : decide ((200 : Int) < (m0 : Int)) = true := decide_eq_true (by omega)
        have E2 : Hid (groupsF k F k S = 2) := by unfold Hid; rw [E.out, if_pos (HFU.out.2 (Or.inl r0))]
        clear r0 HFU E
        go_wp2
        go_ret
        exact ⟨by rw [E2.out]; rfl, B5.out.1⟩
      have d0 : decide ((200 : Int) < (m0 : Int)) = false := decide_eq_false (by omega)
      by_cases r1 : 200 < m1
      · have d : decide ((200 : Int) < (m1 : Int)) = true := decide_eq_true (by omega)
        have E2 : Hid (groupsF k F k S = 2) := by unfold Hid; rw [E.out, if_pos (HFU.out.2 (Or.inr (Or.inl r1)))]
        clear r0 r1 HFU E
        go_wp2
        go_ret
        exact ⟨by rw [E2.out]; rfl, B5.out.1⟩
      have d1 : decide ((200 : Int) < (m1 : Int)) = false := decide_eq_false (by omega)
      by_cases r2 : 200 < m2
      · have d : decide ((200 : Int) < (m2 : Int)) = true := decide_eq_true (by omega)
        have E2 : Hid (groupsF k F k S = 2) := by unfold Hid; rw [E.out, if_pos (HFU.out.2 (Or.inr (Or.inr r2)))]
        clear r0 r1 r2 HFU E
        go_wp2
        go_ret
        exact ⟨by rw [E2.out]; rfl, B5.out.1⟩
      have d2 : decide ((200 : Int) < (m2 : Int)) = false := decide_eq_false (by omega)
      have E2 : Hid (groupsF k F k S = 0) := by unfold Hid; rw [E.out, if_neg (fun q => by have := HFU.out.1 q; omega)]
      clear r0 r1 r2 HFU E
      go_wp2
      go_ret
      exact ⟨by rw [E2.out]; rfl, B5.out.1⟩
end

section
open Go.RowKit
section
end

section
open Go.RowKit
theorem groupsF_zero {nr : Nat} {F : Nat → Int} {n : Nat} {S : Nat → Sto} (h : groupsF nr F n S = 0) : Good nr F ∧ n = nr ∧ (∀ i, i < n → storeF (S i) = 0 ∧ ¬ strayS (S i) (F (i * 3)) (F (i * 3 + 1))) ∧ ¬ fullG n S := by
  unfold groupsF at h
  split at h
  · rename_i q; exact absurd h q
  rename_i q1
  split at h
  · exact absurd h (by decide)
  rename_i q2
  split at h
  · rename_i q; exact absurd h q
  rename_i q3
  split at h
  · exact absurd h (by decide)
  rename_i q4
  refine ⟨good_of (Classical.not_not.1 q1), Classical.not_not.1 q2, fun i hi => ?_, q4⟩
  have h1 := scan_zero (Classical.not_not.1 q3) i hi
  unfold oneF at h1
  split at h1
  · rename_i q; exact absurd h1 q
  rename_i q5
  split at h1
  · exact absurd h1 (by decide)
  rename_i q6
  exact ⟨Classical.not_not.1 q5, q6⟩
end
end
end Go.Proofs.YtdbcmckoiacemaaGreat

namespace Go.Proofs.YtdbcmckoiacemaaGreat
section
open Go.RowKit Go.Maps
end

section
open Go.RowKit Go.Lib
/-- A row of cells that rises and has just what a map has. -/
structure MapRow (m : Int → Int → Option Int) (nc : Nat) (c : Nat → Int) : Prop where
  rise : ∀ j, j < nc → ∀ i, i < j → pairLt (c (i * 3)) (c (i * 3 + 1)) (c (j * 3)) (c (j * 3 + 1))
  wf : ∀ i, i < nc → Wf (c (i * 3)) ∧ Wf (c (i * 3 + 1))
  has : ∀ i, i < nc → m (c (i * 3)) (c (i * 3 + 1)) = some (c (i * 3 + 2))
  all : ∀ x y v, Wf x → Wf y → m x y = some v → ∃ i, i < nc ∧ c (i * 3) = x ∧ c (i * 3 + 1) = y ∧ c (i * 3 + 2) = v
theorem rowD_list (m n : Nat) (F : Nat → Int) : (rowD m n F).toList = (List.range n).map (struD F m) := by
  unfold rowD struD
  simp
theorem MapRow.up {m : Int → Int → Option Int} {nc : Nat} {c : Nat → Int} (h : MapRow m nc c) : ((rowD 3 nc c).toList).Pairwise (Lt2 (fun x => x.getD 0 0) (fun x => x.getD 1 0)) := by
  rw [rowD_list, List.pairwise_map, List.pairwise_iff_getElem]
  intro i j hi hj hij
  simp at hi hj
  simp only [List.getElem_range]
  exact h.rise j hj i hij
theorem puts_some {p q v : Nat → Int} {x y u : Int} : ∀ {n : Nat}, puts p q v n x y = some u → ∃ i, i < n ∧ p i = x ∧ q i = y ∧ v i = u
  | 0, h => by simp [puts] at h
  | n + 1, h => by
    unfold puts putM at h
    by_cases e : x = p n ∧ y = q n
    · rw [if_pos e] at h
      simp at h
      exact ⟨n, by omega, e.1.symm, e.2.symm, h⟩
    · rw [if_neg e] at h
      obtain ⟨i, hi, r⟩ := puts_some h
      exact ⟨i, by omega, r⟩
theorem cellM_some {S : Sto} {x y u : Int} (h : cellM S S.nc x y = some u) : ∃ i, i < S.nc ∧ S.c (i * 3) = x ∧ S.c (i * 3 + 1) = y ∧ S.c (i * 3 + 2) = u := puts_some h
end
end Go.Proofs.YtdbcmckoiacemaaGreat

namespace Go.Proofs.YtdbcmckoiacemaaGreat
open Go.RowKit Go.Maps Go.Lib

theorem Own.block {w : World} {B : Nat} {e : TypeId} {m n : Nat} {F : Nat → Int} {v : Value} (h : Own w B e m n F v) : ∀ k, v.ownBlock = some k → B ≤ k ∧ k < w.heap.size := own_in h
theorem Own.kept {w w' : World} {B : Nat} {e : TypeId} {m n : Nat} {F : Nat → Int} {v : Value} (h : Own w B e m n F v) (hb : ∀ k, v.ownBlock = some k → w'.heap[k]? = w.heap[k]?) : Own w' B e m n F v := by
  refine ⟨h.1, ?_⟩
  rcases h.2 with q | ⟨g, cap, cur, rfl, hg, hw, r⟩
  · exact Or.inl q
  · exact Or.inr ⟨g, cap, cur, rfl, hg, (hb g rfl).trans hw, r⟩
end Go.Proofs.YtdbcmckoiacemaaGreat

namespace Go.Proofs.YtdbcmckoiacemaaGreat
section
open Go.RowKit
def markT (S : Nat → Sto) (i : Nat) : Nat := (S i).nc * 3 + (S i).nl * 5 + (S i).nw * 4
/-- A store numbered from k on. -/
def markK (S : Sto) (k : Int) : Sto := ⟨S.nc, fun p => k + (p : Nat), S.nl, fun p => k + S.nc * 3 + (p : Nat), S.nw, fun p => k + S.nc * 3 + S.nl * 5 + (p : Nat)⟩
theorem markT_le (S : Nat → Sto) : ∀ n, sumN (markT S) n ≤ 5 * sumN (sizeT S) n
  | 0 => by simp [sumN]
  | n + 1 => by
    have := markT_le S n
    show sumN (markT S) n + markT S n ≤ 5 * (sumN (sizeT S) n + sizeT S n)
    unfold markT sizeT at *
    omega
theorem sum_mono (f : Nat → Nat) {k n : Nat} (h : k ≤ n) : sumN f k ≤ sumN f n := by
  induction n with
  | zero => obtain rfl : k = 0 := by omega
            exact Nat.le_refl _
  | succ n ih =>
    by_cases q : k = n + 1
    · subst q; exact Nat.le_refl _
    · exact Nat.le_trans (ih (by omega)) (Nat.le_add_right _ _)
theorem Fine.up {w : World} {z : Nat → Nat} {n : Nat} {S : Nat → Sto} {U : Nat → Nat → Value} (h : Fine w z n S U) : ∀ j, j ≤ n → ∀ i, i ≤ j → z i ≤ z j
  | 0, _, i, hi => by obtain rfl : i = 0 := by omega
                      exact Nat.le_refl _
  | j + 1, hj, i, hi => by
    by_cases q : i = j + 1
    · subst q; exact Nat.le_refl _
    · exact Nat.le_trans (h.up j (by omega) i (by omega)) (h j (by omega)).2.2
/-- One store is turned inside its own blocks: the others stand. -/
theorem Fine.turn1 {x x' : World} {z : Nat → Nat} {n : Nat} {S : Nat → Sto} {U : Nat → Nat → Value} (h : Fine x z n S U) {k : Nat} (hk : k < n) (hw : Within (z k) (z (k + 1)) x x') (T : Sto) (hsz : T.nc = (S k).nc ∧ T.nl = (S k).nl ∧ T.nw = (S k).nw) (hst : St x' (z k) T (U k 0) (U k 1) (U k 2) ∧ FreeS x' T (U k 0) (U k 1) (U k 2)) :
    Fine x' z n (fun i => if i = k then T else S i) U := fun i hi => by
  obtain ⟨⟨h1, h2, h3⟩, h4, h5⟩ := h i hi
  by_cases q : i = k
  · subst q
    simp only [if_true]
    obtain ⟨e0, e1, e2⟩ := hsz
    refine ⟨⟨hst.1, hst.2, ?_⟩, ?_, h5⟩
    · unfold ApartD at h3 ⊢
      rw [e0, e1, e2]
      exact h3
    · unfold OwnIn at h4 ⊢
      rw [e0, e1, e2]
      exact h4
  · simp only [if_neg q]
    have ho : OwnIn (S i) (U i 0) (U i 1) (U i 2) (fun j => j < z k ∨ z (k + 1) ≤ j) := h4.mono (fun j hj => by
      rcases Nat.lt_or_ge i k with c | c
      · have := h.up k (by omega) (i + 1) (by omega)
        exact Or.inl (by omega)
      · have := h.up i (by omega) (k + 1) (by omega)
        exact Or.inr (by omega))
    exact ⟨⟨h1.within hw ho, h2.within h1 hw ho, h3⟩, h4, h5⟩
theorem FillS.within {w w' : World} {g n k B E : Nat} {U : Nat → Nat → Value} (h : FillS w g n k U) (hw : Within B E w w') (hg : g < B ∨ E ≤ g) : FillS w' g n k U := h.kept hw.size (hw.block g h.1 hg)
theorem Fine.congr {w : World} {z : Nat → Nat} {n : Nat} {S T : Nat → Sto} {U : Nat → Nat → Value} (h : Fine w z n S U) (e : ∀ i, i < n → S i = T i) : Fine w z n T U := fun i hi => by rw [← e i hi]; exact h i hi
def mixS (S : Nat → Sto) (k0 : Int) (k i : Nat) : Sto := if i < k then markK (S i) (k0 + (sumN (markT S) i : Nat)) else S i
theorem mix_same (S : Nat → Sto) (k0 : Int) (k i : Nat) : (mixS S k0 k i).nc = (S i).nc ∧ (mixS S k0 k i).nl = (S i).nl ∧ (mixS S k0 k i).nw = (S i).nw := by
  unfold mixS
  split <;> exact ⟨rfl, rfl, rfl⟩
set_option maxRecDepth 100000 in
set_option maxHeartbeats 8000000 in
theorem markStoreS_any (n cp g : Nat) (S : Nat → Sto) (U : Nat → Nat → Value) (z : Nat → Nat) (k0 : Int) (w : World) (hF : FillS w g n n U) (hf : Fine w z n S U) (hg : g < z 0) (hz : z n ≤ w.heap.size) (hs : ∀ i, i < n → SmallS (S i)) (ht : sumN (sizeT S) n ≤ 1048576) (h0 : 0 ≤ k0) (h1 : k0 ≤ 10000000) (hn : n ≤ 1048576) :
    Calls Tryz.prog 70 #[.slice (some ⟨g, 0, none⟩) n cp, .int .i64 k0] w fun e w' => e = .returned (.int .i64 (k0 + (sumN (markT S) n : Nat))) ∧ (FillS w' g n n U ∧ Fine w' z n (mixS S k0 n) U) ∧ Within (z 0) (z n) w w' := by
  have HF : Hid (FillS w g n n U ∧ Fine w z n S U ∧ g < z 0 ∧ z n ≤ w.heap.size) := ⟨hF, hf, hg, hz⟩
  have HN : Hid ((∀ i, i < n → SmallS (S i)) ∧ ∀ k, k ≤ n → sumN (markT S) k ≤ 5242880) := ⟨hs, fun k hk => by have := sum_mono (markT S) hk; have := markT_le S n; omega⟩
  clear hF hf hg hz hs ht
  go_enter Tryz.func70, Tryz.ntmps70
  go_wp2
  go_loopw [1, 5] (fun j i wr => ∃ (k c : Nat), k ≤ n ∧ j = .int .i64 (k0 + (c : Nat)) ∧ i = .int .i64 k ∧ Hid (c = sumN (markT S) k) ∧ Hid (Within (z 0) (z n) w wr ∧ FillS wr g n n U ∧ Fine wr z n (mixS S k0 k) U)) (fun _ i _ => n - (intOf i).toNat)
  case atStart => exact ⟨0, 0, Nat.zero_le _, by simp, rfl, rfl, Within.refl _ _ _, HF.out.1, HF.out.2.1.congr (fun i _ => by unfold mixS; rw [if_neg (Nat.not_lt_zero i)])⟩
  case round =>
    obtain ⟨k, c, hk, rfl, rfl, HC, HR⟩ := hrel
    have hcb : c ≤ 5242880 := by rw [HC.out]; exact HN.out.2 k hk
    by_cases hlt : k < n
    · obtain ⟨b0, b1, b2⟩ := HR.out.2.1.2.2 k hlt
      obtain ⟨⟨sk, fk, ak⟩, ok, uk⟩ := HR.out.2.2 k hlt
      have emx : mixS S k0 k k = S k := by unfold mixS; rw [if_neg (Nat.lt_irrefl k)]
      rw [emx] at sk fk ak ok
      obtain ⟨i0, d0, i1, d1, i2, d2, e0, e1, e2⟩ := sk.form
      obtain ⟨n0, hn0⟩ : ∃ x, (S k).nc = x := ⟨_, rfl⟩
      obtain ⟨n1, hn1⟩ : ∃ x, (S k).nl = x := ⟨_, rfl⟩
      obtain ⟨n2, hn2⟩ : ∃ x, (S k).nw = x := ⟨_, rfl⟩
      rw [e0, hn0] at b0
      rw [e1, hn1] at b1
      rw [e2, hn2] at b2
      have EU : Hid (U k 0 = .slice i0 n0 d0 ∧ U k 1 = .slice i1 n1 d1 ∧ U k 2 = .slice i2 n2 d2) := ⟨by rw [e0, hn0], by rw [e1, hn1], by rw [e2, hn2]⟩
      have hsm := HN.out.1 k hlt
      unfold SmallS at hsm
      rw [hn0, hn1, hn2] at hsm
      obtain ⟨m0, m1, m2⟩ := hsm
      have SK : Hid ((Row wr (z k) 3 n0 (S k).c (.slice i0 n0 d0) ∧ Row wr (z k) 5 n1 (S k).l (.slice i1 n1 d1) ∧ Row wr (z k) 4 n2 (S k).k (.slice i2 n2 d2)) ∧ Free wr (n0 * 3) (.slice i0 n0 d0) ∧ Free wr (n1 * 5) (.slice i1 n1 d1) ∧ Free wr (n2 * 4) (.slice i2 n2 d2)) := by
        rw [e0, e1, e2] at sk fk
        obtain ⟨x0, x1, x2⟩ := sk
        obtain ⟨y0, y1, y2⟩ := fk
        rw [hn0] at x0 y0
        rw [hn1] at x1 y1
        rw [hn2] at x2 y2
        exact ⟨⟨x0, x1, x2⟩, y0, y1, y2⟩
      have AK : Hid ((0 < n0 → 0 < n1 → (Value.slice i0 n0 d0).ownBlock ≠ (Value.slice i1 n1 d1).ownBlock) ∧ (0 < n0 → 0 < n2 → (Value.slice i0 n0 d0).ownBlock ≠ (Value.slice i2 n2 d2).ownBlock) ∧ (0 < n1 → 0 < n2 → (Value.slice i1 n1 d1).ownBlock ≠ (Value.slice i2 n2 d2).ownBlock)) := by
        unfold ApartD at ak
        rw [e0, e1, e2, hn0, hn1, hn2] at ak
        exact ak
      have OK : Hid ((0 < n0 → ∀ j, (Value.slice i0 n0 d0).ownBlock = some j → z k ≤ j ∧ j < z (k + 1)) ∧ (0 < n1 → ∀ j, (Value.slice i1 n1 d1).ownBlock = some j → z k ≤ j ∧ j < z (k + 1)) ∧ (0 < n2 → ∀ j, (Value.slice i2 n2 d2).ownBlock = some j → z k ≤ j ∧ j < z (k + 1))) := by
        unfold OwnIn at ok
        rw [e0, e1, e2, hn0, hn1, hn2] at ok
        exact ok
      have hgz : Hid (g < z k ∧ z 0 ≤ z k ∧ z (k + 1) ≤ z n) := ⟨by have := HF.out.2.2.1; have := HF.out.2.1.up k hk 0 (Nat.zero_le _); omega, HF.out.2.1.up k hk 0 (Nat.zero_le _), HF.out.2.1.up n (Nat.le_refl _) (k + 1) hlt⟩
      have HE : Hid ((S k).nc = n0 ∧ (S k).nl = n1 ∧ (S k).nw = n2) := ⟨hn0, hn1, hn2⟩
      have HC1 : Hid (c + n0 * 3 + n1 * 5 + n2 * 4 = sumN (markT S) (k + 1)) := by
        unfold Hid
        show _ = sumN (markT S) k + ((S k).nc * 3 + (S k).nl * 5 + (S k).nw * 4)
        rw [HC.out, hn0, hn1, hn2]
        omega
      clear sk fk ak ok uk emx e0 e1 e2 hn0 hn1 hn2
      go_wp2_with fail
      refine (markCellS_turn _ (z k) n0 (S k).c (k0 + (c : Nat)) _ SK.out.1.1 SK.out.2.1 m0 (by omega) (by omega)).mono ?_
      rintro e w1 ⟨rfl, r1, f1, g1⟩
      have W1 : Hid (Within (z k) (z (k + 1)) wr w1) := Within.of g1 (fun b q => by obtain ⟨h0, h1⟩ := turn_eq q; exact OK.out.1 h0 b h1)
      have x1 := apart_rows SK.out.1.1 SK.out.1.2.1 AK.out.1
      have x2 := apart_rows SK.out.1.1 SK.out.1.2.2 AK.out.2.1
      have SK1 : Hid ((Row w1 (z k) 3 n0 (fun p => k0 + (c : Nat) + (p : Nat)) (.slice i0 n0 d0) ∧ Row w1 (z k) 5 n1 (S k).l (.slice i1 n1 d1) ∧ Row w1 (z k) 4 n2 (S k).k (.slice i2 n2 d2)) ∧ Free w1 (n0 * 3) (.slice i0 n0 d0) ∧ Free w1 (n1 * 5) (.slice i1 n1 d1) ∧ Free w1 (n2 * 4) (.slice i2 n2 d2)) :=
        ⟨⟨r1, SK.out.1.2.1.turned g1 x1, SK.out.1.2.2.turned g1 x2⟩, f1, SK.out.2.2.1.turned SK.out.1.2.1 g1 x1, SK.out.2.2.2.turned SK.out.1.2.2 g1 x2⟩
      have FL1 : Hid (FillS w1 g n n U) := HR.out.2.1.within W1.out (Or.inl hgz.out.1)
      clear r1 f1 g1 x1 x2 b0 b1 b2 SK
      obtain ⟨b0, b1, b2⟩ := FL1.out.2.2 k hlt
      rw [EU.out.1] at b0
      rw [EU.out.2.1] at b1
      rw [EU.out.2.2] at b2
      go_wp2_with fail
      refine (markLockS_turn _ (z k) n1 (S k).l _ _ SK1.out.1.2.1 SK1.out.2.2.1 m1 (by omega) (by omega)).mono ?_
      rintro e w2 ⟨rfl, r2, f2, g2⟩
      have W2 : Hid (Within (z k) (z (k + 1)) wr w2) := W1.out.trans (Within.of g2 (fun b q => by obtain ⟨h0, h1⟩ := turn_eq q; exact OK.out.2.1 h0 b h1))
      have x0 := apart_rows SK1.out.1.2.1 SK1.out.1.1 (fun h1 h2 e => AK.out.1 h2 h1 e.symm)
      have x2 := apart_rows SK1.out.1.2.1 SK1.out.1.2.2 AK.out.2.2
      have SK2 : Hid ((Row w2 (z k) 3 n0 (fun p => k0 + (c : Nat) + (p : Nat)) (.slice i0 n0 d0) ∧ Row w2 (z k) 5 n1 (fun p => k0 + (c : Nat) + n0 * 3 + (p : Nat)) (.slice i1 n1 d1) ∧ Row w2 (z k) 4 n2 (S k).k (.slice i2 n2 d2)) ∧ Free w2 (n0 * 3) (.slice i0 n0 d0) ∧ Free w2 (n1 * 5) (.slice i1 n1 d1) ∧ Free w2 (n2 * 4) (.slice i2 n2 d2)) :=
        ⟨⟨SK1.out.1.1.turned g2 x0, r2, SK1.out.1.2.2.turned g2 x2⟩, SK1.out.2.1.turned SK1.out.1.1 g2 x0, f2, SK1.out.2.2.2.turned SK1.out.1.2.2 g2 x2⟩
      have FL2 : Hid (FillS w2 g n n U) := HR.out.2.1.within W2.out (Or.inl hgz.out.1)
      clear r2 f2 g2 x0 x2 b0 b1 b2 SK1 FL1 W1
      obtain ⟨b0, b1, b2⟩ := FL2.out.2.2 k hlt
      rw [EU.out.1] at b0
      rw [EU.out.2.1] at b1
      rw [EU.out.2.2] at b2
      go_wp2_with fail
      refine (markWriteS_turn _ (z k) n2 (S k).k _ _ SK2.out.1.2.2 SK2.out.2.2.2 m2 (by omega) (by omega)).mono ?_
      rintro e w3 ⟨rfl, r3, f3, g3⟩
      have W3 : Hid (Within (z k) (z (k + 1)) wr w3) := W2.out.trans (Within.of g3 (fun b q => by obtain ⟨h0, h1⟩ := turn_eq q; exact OK.out.2.2 h0 b h1))
      have x0 := apart_rows SK2.out.1.2.2 SK2.out.1.1 (fun h1 h2 e => AK.out.2.1 h2 h1 e.symm)
      have x1 := apart_rows SK2.out.1.2.2 SK2.out.1.2.1 (fun h1 h2 e => AK.out.2.2 h2 h1 e.symm)
      have SK3 : Hid (Fine w3 z n (mixS S k0 (k + 1)) U) := by
        have hm : (markK (S k) (k0 + (sumN (markT S) k : Nat))).nc = n0 ∧ (markK (S k) (k0 + (sumN (markT S) k : Nat))).nl = n1 ∧ (markK (S k) (k0 + (sumN (markT S) k : Nat))).nw = n2 := HE.out
        have h1 := HR.out.2.2.turn1 hlt W3.out (markK (S k) (k0 + (sumN (markT S) k : Nat))) (by have := mix_same S k0 k k; rw [this.1, this.2.1, this.2.2]; exact ⟨rfl, rfl, rfl⟩) (by
          rw [EU.out.1, EU.out.2.1, EU.out.2.2]
          unfold St FreeS markK
          simp only
          rw [HE.out.1, HE.out.2.1, HE.out.2.2, ← HC.out]
          exact ⟨⟨SK2.out.1.1.turned g3 x0, SK2.out.1.2.1.turned g3 x1, r3⟩, SK2.out.2.1.turned SK2.out.1.1 g3 x0, SK2.out.2.2.1.turned SK2.out.1.2.1 g3 x1, f3⟩)
        refine h1.congr (fun i hi => ?_)
        unfold mixS
        by_cases q : i = k
        · subst q; rw [if_pos rfl, if_pos (Nat.lt_succ_self i)]
        · rw [if_neg q]
          by_cases q2 : i < k
          · rw [if_pos q2, if_pos (by omega)]
          · rw [if_neg q2, if_neg (by omega)]
      have WW : Hid (Within (z 0) (z n) w w3) := HR.out.1.trans (W3.out.mono hgz.out.2.1 hgz.out.2.2)
      have FL3 : Hid (FillS w3 g n n U) := HR.out.2.1.within W3.out (Or.inl hgz.out.1)
      clear r3 f3 g3 x0 x1 b0 b1 b2 SK2 FL2 W2 W3 HR AK OK EU
      go_wp2
      go_roundw
      case rel => exact ⟨k + 1, c + n0 * 3 + n1 * 5 + n2 * 4, by omega, by congr 1; push_cast; omega, by go_num, HC1, WW.out, FL3.out, SK3.out⟩
      case measure => simp [intOf]; omega
    · obtain rfl : k = n := by omega
      go_wp2
      go_ret
      exact ⟨by rw [HC.out]; rfl, HR.out.2, HR.out.1⟩
end

section
open Go.RowKit
section
/-- No list of a store lies in block q. -/
def Spare (n : Nat) (S : Nat → Sto) (U : Nat → Nat → Value) (q : Nat) : Prop := ∀ i, i < n → OwnIn (S i) (U i 0) (U i 1) (U i 2) (fun p => p ≠ q)
end

section
open Go.RowKit
theorem Fine.within {w w' : World} {z : Nat → Nat} {n : Nat} {S : Nat → Sto} {U : Nat → Nat → Value} {B E : Nat} (h : Fine w z n S U) (hw : Within B E w w') (hz : ∀ i, i < n → E ≤ z i) : Fine w' z n S U := fun i hi => by
  obtain ⟨⟨h1, h2, h3⟩, h4, h5⟩ := h i hi
  have ho : OwnIn (S i) (U i 0) (U i 1) (U i 2) (fun j => j < B ∨ E ≤ j) := h4.mono (fun j hj => Or.inr (by have := hz i hi; omega))
  exact ⟨⟨h1.within hw ho, h2.within h1 hw ho, h3⟩, h4, h5⟩
end

section
open Go.RowKit
end

section
open Go.RowKit
theorem FillS.set {w : World} {g n k : Nat} {U : Nat → Nat → Value} (h : FillS w g n n U) (hk : k < n) (u0 u1 u2 : Value) : FillS (((w.setCell ⟨g, k * 3, none⟩ u0).setCell ⟨g, k * 3 + 1, none⟩ u1).setCell ⟨g, k * 3 + 2, none⟩ u2) g n n (putU U k u0 u1 u2) := by
  have h' : FillS w g n k U := ⟨h.1, h.2.1, fun i hi => h.2.2 i (by omega)⟩
  have hp := h'.put hk u0 u1 u2
  refine ⟨hp.1, hp.2.1, fun i hi => ?_⟩
  by_cases q : i < k + 1
  · exact hp.2.2 i q
  · have other : ∀ p, k * 3 + 3 ≤ p → (((w.setCell ⟨g, k * 3, none⟩ u0).setCell ⟨g, k * 3 + 1, none⟩ u1).setCell ⟨g, k * 3 + 2, none⟩ u2).cell? ⟨g, p, none⟩ = w.cell? ⟨g, p, none⟩ := fun p hp =>
      (World.cell?_setCell_other _ _ _ _ (by intro q; simp at q; try omega)).trans ((World.cell?_setCell_other _ _ _ _ (by intro q; simp at q; try omega)).trans (World.cell?_setCell_other _ _ _ _ (by intro q; simp at q; try omega)))
    obtain ⟨d0, d1, d2⟩ := h.2.2 i hi
    unfold putU
    rw [if_neg (by omega), if_neg (by omega), if_neg (by omega)]
    exact ⟨(other _ (by omega)).trans d0, (other _ (by omega)).trans d1, (other _ (by omega)).trans d2⟩
end
end
end Go.Proofs.YtdbcmckoiacemaaGreat

namespace Go.Proofs.YtdbcmckoiacemaaGreat
section
open Go.RowKit
end

section
open Go.RowKit
end

section
open Go.RowKit
end

section
open Go.RowKit
theorem ResRow.none {w w' : World} {c : Int} {e : Ending} {F : Nat → Int} (he : e = .returned (.agg #[.int .i64 c, .slice none 0 0])) (hb : Below w.heap.size w w') : ResRow 3 w c 0 F e w' :=
  ⟨Option.none, 0, he, ⟨_, _, rfl, fun q => absurd q (Nat.lt_irrefl 0)⟩, Free.of0 _ _, hb⟩
theorem Blk3.row {x : World} {b B : Nat} {F : Nat → Int} (h : Blk3 x b (.int .i64 (F 0)) (.int .i64 (F 1)) (.int .i64 (F 2))) (hB : B ≤ b) (cp : Nat) : Row x B 3 1 F (.slice (some ⟨b, 0, none⟩) 1 cp) ∧ Free x (1 * 3) (.slice (some ⟨b, 0, none⟩) 1 cp) := by
  have hl := h.lt
  obtain ⟨⟨h0, h1, h2⟩, f0, f1, f2⟩ := h
  refine ⟨⟨_, _, rfl, fun _ => ⟨b, 0, rfl, hB, hl, fun p hp => ?_⟩⟩, ?_⟩
  · match p, hp with
    | 0, _ => exact h0
    | 1, _ => exact h1
    | 2, _ => exact h2
  · intro g o n c hv p hp
    simp only [Value.slice.injEq, Option.some.injEq, Addr.mk.injEq] at hv
    obtain ⟨⟨rfl, rfl, _⟩, _, _⟩ := hv
    match p, hp with
    | 0, _ => exact f0
    | 1, _ => exact f1
    | 2, _ => exact f2
end
end Go.Proofs.YtdbcmckoiacemaaGreat

namespace Go.Proofs.YtdbcmckoiacemaaGreat
section
open Go.RowKit Go.Maps
/-- A range's store that is worked on: its range and its columns, in block b. -/
def RSt (x : World) (B b : Nat) (fr tto ep : Int) (N : Nat) (m : Int → Int → Option Int) (nl : Nat) (l : Nat → Int) (nw : Nat) (k : Nat → Int) (g : Nat) (u1 u2 : Value) : Prop :=
  (x.cell? ⟨b, 0, none⟩ = some (.int .i64 fr) ∧ x.cell? ⟨b, 1, none⟩ = some (.int .i64 tto) ∧ x.cell? ⟨b, 2, none⟩ = some (.int .i64 ep)) ∧ ColsO x B b 3 N m nl l nw k g u1 u2 ∧ ApartC b g u1 u2
def PtE (w : World) (s0 s1 s2 r0 r1 r2 : Value) (x : World) : Prop := Blk3 x w.heap.size s0 s1 s2 ∧ Blk3 x (w.heap.size + 1) r0 r1 r2
set_option maxRecDepth 100000 in
set_option maxHeartbeats 4000000 in
theorem pointTo_is (S : Sto) (v0 v1 v2 : Value) (fr tto ep : Int) (B : Nat) (w : World) (h : St w B S v0 v1 v2) (hz : storeF S = 0) :
    Calls Tryz.prog 99 #[.agg #[v0, v1, v2], .agg #[.int .i64 fr, .int .i64 tto, .int .i64 ep]] w fun e w' => ∃ b g u1 u2, e = .returned (.pointer (some ⟨b, 0, none⟩)) ∧ RSt w' w.heap.size b fr tto ep S.nc (cellM S S.nc) S.nl S.l S.nw S.k g u1 u2 ∧ Below w.heap.size w w' := by
  obtain ⟨a0, c0, a1, c1, a2, c2, rfl, rfl, rfl⟩ := h.form
  have H : Hid (St w B S (.slice a0 S.nc c0) (.slice a1 S.nl c1) (.slice a2 S.nw c2)) := h
  have Z := storeF_zero hz
  have HZ : Hid ((S.nc ≤ 200 ∧ S.nl ≤ 200 ∧ S.nw ≤ 200) ∧ scan (cellF S.c) S.nc = 0) := ⟨Z.1, Z.2.1⟩
  have HP : Hid (PtE w (.slice a0 S.nc c0) (.slice a1 S.nl c1) (.slice a2 S.nw c2) (.int .i64 fr) (.int .i64 tto) (.int .i64 ep) ((w.alloc (.cells #[.slice a0 S.nc c0, .slice a1 S.nl c1, .slice a2 S.nw c2] 107)).alloc (.cells #[.int .i64 fr, .int .i64 tto, .int .i64 ep] 130)) ∧ Below w.heap.size w ((w.alloc (.cells #[.slice a0 S.nc c0, .slice a1 S.nl c1, .slice a2 S.nw c2] 107)).alloc (.cells #[.int .i64 fr, .int .i64 tto, .int .i64 ep] 130))) := by
    refine ⟨⟨(Blk3.new w _ _ _ _).alloc _, ?_⟩, (below_alloc _ _).alloc (by simp) _⟩
    have := Blk3.new (w.alloc (.cells #[.slice a0 S.nc c0, .slice a1 S.nl c1, .slice a2 S.nw c2] 107)) (.int .i64 fr) (.int .i64 tto) (.int .i64 ep) 130
    rwa [World.size_alloc] at this
  clear h hz Z
  go_enter Tryz.func99, Tryz.ntmps99
  go_wp2_with fail
  generalize (w.alloc (.cells #[.slice a0 S.nc c0, .slice a1 S.nl c1, .slice a2 S.nw c2] 107)).alloc (.cells #[.int .i64 fr, .int .i64 tto, .int .i64 ep] 130) = w1 at HP ⊢
  refine wp_region_held_drew (S := PtE w (.slice a0 S.nc c0) (.slice a1 S.nl c1) (.slice a2 S.nw c2) (.int .i64 fr) (.int .i64 tto) (.int .i64 ep)) (by kernel_rfl) ⟨HP.out.1.1.kept rfl, HP.out.1.2.kept rfl⟩ (fun hS => ?_)
  refine tkH 0 ?_ hS (fun wx hx => ?_) ?_; rotate_left
  · obtain ⟨⟨⟨hx0, hx1, hx2⟩, _⟩, ⟨hx3, hx4, hx5⟩, _⟩ := hx; go_simp; try with_reducible rfl
  refine tkH 1 ?_ hS (fun wx hx => ?_) ?_; rotate_left
  · obtain ⟨⟨⟨hx0, hx1, hx2⟩, _⟩, ⟨hx3, hx4, hx5⟩, _⟩ := hx; go_simp; try with_reducible rfl
  refine rdH 2 (fun K hK => ?_)
  go_simp
  go_wp2_with fail
  refine (columnsOf_apart S B _ _ _ _ ((H.out.later HP.out.2).later (below_dr (Below.refl _ _) 1)) HZ.out.1.1 HZ.out.1.2.1 HZ.out.1.2.2 HZ.out.2).mono ?_
  rintro e w2 ⟨b, g, u1, u2, rfl, hC, hap, q2⟩
  have q2' : Below w1.heap.size w1 w2 := ⟨q2.os, q2.tape, q2.output, q2.size, q2.block⟩
  obtain ⟨b1, d1, rfl⟩ := hC.2.2.2.2.1.form
  obtain ⟨b2, d2, rfl⟩ := hC.2.2.2.2.2.form
  have HC : Hid (Cols w2 w1.heap.size b S.nc (cellM S S.nc) S.nl S.l S.nw S.k g (.slice b1 S.nl d1) (.slice b2 S.nw d2) ∧ ApartC b g (.slice b1 S.nl d1) (.slice b2 S.nw d2)) := ⟨hC, hap⟩
  have HB2 : Hid (Below w.heap.size w w2 ∧ w.heap.size ≤ w1.heap.size) := ⟨HP.out.2.trans (q2'.mono HP.out.2.size), HP.out.2.size⟩
  have hS' : PtE w (.slice a0 S.nc c0) (.slice a1 S.nl c1) (.slice a2 S.nw c2) (.int .i64 fr) (.int .i64 tto) (.int .i64 ep) w2 := ⟨hS.1.later q2, hS.2.later q2⟩
  obtain ⟨⟨t0, t1, t2⟩, _⟩ := hC.2.2.1
  clear hC hap q2 q2'
  go_wp2_with fail
  refine hK.out _ _ hS' (fun hS => ?_)
  clear hK K hS'
  refine tkH 3 ?_ hS (fun wx hx => ?_) ?_; rotate_left
  · obtain ⟨⟨⟨hx0, hx1, hx2⟩, _⟩, ⟨hx3, hx4, hx5⟩, _⟩ := hx; go_simp; try with_reducible rfl
  refine rdH 4 (fun K hK => ?_)
  go_simp
  refine hK.out _ _ hS (fun hS => ?_)
  clear hK K
  refine tkH 5 ?_ hS (fun wx hx => ?_) ?_; rotate_left
  · obtain ⟨⟨⟨hx0, hx1, hx2⟩, _⟩, ⟨hx3, hx4, hx5⟩, _⟩ := hx; go_simp; try with_reducible rfl
  refine rdH 6 (fun K hK => ?_)
  go_simp
  refine hK.out _ _ (show PtE w _ _ _ _ _ _ _ from ⟨hS.1.alloc _, hS.2.alloc _⟩) (fun hS => ?_)
  clear hK K
  refine tkH 7 ?_ hS (fun wx hx => ?_) ?_; rotate_left
  · obtain ⟨⟨⟨hx0, hx1, hx2⟩, _⟩, ⟨hx3, hx4, hx5⟩, _⟩ := hx; go_simp; try with_reducible rfl
  refine wpAnyH_done (by kernel_rfl) ?_ _
  clear hS t0 t1 t2
  go_simp
  go_wp2
  go_ret
  have hlt := HC.out.1.2.2.1.lt
  have hgl := HC.out.1.2.2.2.1.lt
  have cl : ∀ (j : Nat) (u : Value), (#[.int .i64 fr, .int .i64 tto, .int .i64 ep, .map (some g), .slice b1 S.nl d1, .slice b2 S.nw d2] : Array Value)[j]? = some u → (w2.alloc (.cells #[.int .i64 fr, .int .i64 tto, .int .i64 ep, .map (some g), .slice b1 S.nl d1, .slice b2 S.nw d2] 135)).cell? ⟨w2.heap.size, j, none⟩ = some u := fun j u hu => (World.cell?_alloc_mark w2 _ _ _ j).trans hu
  have cf : ∀ (j : Nat), (w2.alloc (.cells #[.int .i64 fr, .int .i64 tto, .int .i64 ep, .map (some g), .slice b1 S.nl d1, .slice b2 S.nw d2] 135)).frozen? ⟨w2.heap.size, j, none⟩ = false := fun j => by simp
  refine ⟨w2.heap.size, g, _, _, rfl, ⟨⟨cl 0 _ rfl, cl 1 _ rfl, cl 2 _ rfl⟩, ⟨HB2.out.1.size, Nat.le_trans HB2.out.2 HC.out.1.2.1, ⟨⟨cl 3 _ rfl, cl 4 _ rfl, cl 5 _ rfl⟩, cf 3, cf 4, cf 5⟩, HC.out.1.2.2.2.1.later (below_alloc _ _), (HC.out.1.2.2.2.2.1.later (below_alloc _ _)).mono HB2.out.2, (HC.out.1.2.2.2.2.2.later (below_alloc _ _)).mono HB2.out.2⟩, ⟨by omega, fun q e => ⟨by have := (own_in HC.out.1.2.2.2.2.1 q e).2; omega, (HC.out.2.2.1 q e).2⟩, fun q e => ⟨by have := (own_in HC.out.1.2.2.2.2.2 q e).2; omega, (HC.out.2.2.2.1 q e).2⟩, HC.out.2.2.2.2⟩⟩, HB2.out.1.trans ((below_alloc _ _).mono HB2.out.1.size)⟩
theorem mapSelf {S : Sto} (hz : scan (cellF S.c) S.nc = 0) : MapRow (cellM S S.nc) S.nc S.c :=
  ⟨cells_rise hz, fun i hi => by
    have hc := cellF_zero (scan_zero hz i hi)
    have hk := faultOf_zero hc.1
    exact ⟨wf_small hk.1 (by omega), wf_small (by omega) hc.2.2.1⟩, fun i hi => cellM_at hz hi ⟨rfl, rfl⟩, fun _ _ _ _ _ h => cellM_some h⟩
end

section
open Go.RowKit
section
/-- The lists of the first k stores, one behind the other. -/
def listU (U : Nat → Nat → Value) : Nat → List Value
  | 0 => []
  | k + 1 => listU U k ++ [U k 0, U k 1, U k 2]
theorem listU_len (U : Nat → Nat → Value) : ∀ k, (listU U k).length = k * 3
  | 0 => rfl
  | k + 1 => by
    show (listU U k ++ [U k 0, U k 1, U k 2]).length = (k + 1) * 3
    rw [List.length_append, listU_len U k]
    simp only [List.length_cons, List.length_nil]
    omega
theorem listU_at (U : Nat → Nat → Value) : ∀ k i, i < k → (listU U k)[i * 3]? = some (U i 0) ∧ (listU U k)[i * 3 + 1]? = some (U i 1) ∧ (listU U k)[i * 3 + 2]? = some (U i 2)
  | 0, i, hi => absurd hi (Nat.not_lt_zero i)
  | k + 1, i, hi => by
    have hl := listU_len U k
    show (listU U k ++ [U k 0, U k 1, U k 2])[i * 3]? = _ ∧ (listU U k ++ [U k 0, U k 1, U k 2])[i * 3 + 1]? = _ ∧ (listU U k ++ [U k 0, U k 1, U k 2])[i * 3 + 2]? = _
    by_cases q : i = k
    · subst q
      rw [List.getElem?_append_right (by omega), List.getElem?_append_right (by omega), List.getElem?_append_right (by omega), hl, Nat.sub_self, show i * 3 + 1 - i * 3 = 1 by omega, show i * 3 + 2 - i * 3 = 2 by omega]
      exact ⟨rfl, rfl, rfl⟩
    · obtain ⟨h0, h1, h2⟩ := listU_at U k i (by omega)
      rw [List.getElem?_append_left (by omega), List.getElem?_append_left (by omega), List.getElem?_append_left (by omega)]
      exact ⟨h0, h1, h2⟩
/-- What is turned is a list of its own: the stores' lists stand. -/
theorem Fine.past {x x' : World} {z : Nat → Nat} {k : Nat} {S : Nat → Sto} {U : Nat → Nat → Value} {v : Value} (h : Fine x z k S U) (hg : x.grownBy x' v.ownBlock) (hs : ∀ q, v.ownBlock = some q → Spare k S U q) : Fine x' z k S U := fun i hi => by
  obtain ⟨⟨⟨s0, s1, s2⟩, ⟨f0, f1, f2⟩, h3⟩, h4⟩ := h i hi
  have x0 : 0 < (S i).nc → ∀ k, (U i 0).ownBlock = some k → some k ≠ v.ownBlock := fun hp k hk e => (hs k e.symm i hi).1 hp k hk rfl
  have x1 : 0 < (S i).nl → ∀ k, (U i 1).ownBlock = some k → some k ≠ v.ownBlock := fun hp k hk e => (hs k e.symm i hi).2.1 hp k hk rfl
  have x2 : 0 < (S i).nw → ∀ k, (U i 2).ownBlock = some k → some k ≠ v.ownBlock := fun hp k hk e => (hs k e.symm i hi).2.2 hp k hk rfl
  exact ⟨⟨⟨s0.turned hg x0, s1.turned hg x1, s2.turned hg x2⟩, ⟨f0.turned s0 hg x0, f1.turned s1 hg x1, f2.turned s2 hg x2⟩, h3⟩, h4⟩
end

section
open Go.RowKit Go.Maps
theorem RSt.later {x x' : World} {B b : Nat} {fr tto ep : Int} {N : Nat} {m : Int → Int → Option Int} {nl : Nat} {l : Nat → Int} {nw : Nat} {k : Nat → Int} {g : Nat} {u1 u2 : Value} (h : RSt x B b fr tto ep N m nl l nw k g u1 u2) (hb : Below x.heap.size x x') : RSt x' B b fr tto ep N m nl l nw k g u1 u2 := by
  have hl := h.2.1.2.2.1.lt
  exact ⟨⟨(hb.cell (p := ⟨b, 0, none⟩) hl).trans h.1.1, (hb.cell (p := ⟨b, 1, none⟩) hl).trans h.1.2.1, (hb.cell (p := ⟨b, 2, none⟩) hl).trans h.1.2.2⟩, h.2.1.later hb, h.2.2⟩
/-- The stores that are worked on: number i lies in block P i. -/
def ToldG (w : World) (B n : Nat) (F : Nat → Int) (S : Nat → Sto) (P : Nat → Nat) : Prop := ∀ i, i < n → ∃ N m g u1 u2, (N ≤ 400 ∧ (S i).nl ≤ 200 ∧ (S i).nw ≤ 200) ∧ MapRow m (S i).nc (S i).c ∧ RSt w B (P i) (F (i * 3)) (F (i * 3 + 1)) (F (i * 3 + 2)) N m (S i).nl (S i).l (S i).nw (S i).k g u1 u2
def PtrRow (w : World) (n : Nat) (pa : Option Addr) (P : Nat → Nat) : Prop := 0 < n → ∃ gp op, pa = some ⟨gp, op, none⟩ ∧ gp < w.heap.size ∧ ∀ i, i < n → w.cell? ⟨gp, op + i, none⟩ = some (.pointer (some ⟨P i, 0, none⟩))
end

section
open Go.RowKit Go.Maps
end
end

section
open Go.RowKit Go.Maps
section
theorem Own.keptB {w w' : World} {B : Nat} {e : TypeId} {m n : Nat} {F : Nat → Int} {v : Value} (h : Own w B e m n F v) (hb : ∀ q, B ≤ q → q < w.heap.size → w'.heap[q]? = w.heap[q]?) : Own w' B e m n F v := by
  refine ⟨h.1, ?_⟩
  rcases h.2 with q | ⟨g, cap, cur, rfl, hg, hw, r⟩
  · exact Or.inl q
  · exact Or.inr ⟨g, cap, cur, rfl, hg, (hb g hg (Array.getElem?_eq_some_iff.1 hw).1).trans hw, r⟩
theorem RSt.keptB {x x' : World} {B b : Nat} {fr tto ep : Int} {N : Nat} {m : Int → Int → Option Int} {nl : Nat} {l : Nat → Int} {nw : Nat} {k : Nat → Int} {g : Nat} {u1 u2 : Value} (h : RSt x B b fr tto ep N m nl l nw k g u1 u2) (hb : ∀ q, B ≤ q → q < x.heap.size → x'.heap[q]? = x.heap[q]?) : RSt x' B b fr tto ep N m nl l nw k g u1 u2 := by
  obtain ⟨⟨h0, h1, h2⟩, ⟨c1, c2, c3, c4, c5, c6⟩, h4⟩ := h
  have e := hb b c1 c3.lt
  exact ⟨⟨(World.cell?_of_block (w := x) (a := ⟨b, 0, none⟩) e).trans h0, (World.cell?_of_block (w := x) (a := ⟨b, 1, none⟩) e).trans h1, (World.cell?_of_block (w := x) (a := ⟨b, 2, none⟩) e).trans h2⟩, ⟨c1, c2, c3.kept e, c4.kept (hb g c2 c4.lt), c5.keptB hb, c6.keptB hb⟩, h4⟩
theorem RSt.mono {x : World} {B B' b : Nat} {fr tto ep : Int} {N : Nat} {m : Int → Int → Option Int} {nl : Nat} {l : Nat → Int} {nw : Nat} {k : Nat → Int} {g : Nat} {u1 u2 : Value} (h : RSt x B b fr tto ep N m nl l nw k g u1 u2) (hB : B' ≤ B) : RSt x B' b fr tto ep N m nl l nw k g u1 u2 :=
  ⟨h.1, ⟨Nat.le_trans hB h.2.1.1, Nat.le_trans hB h.2.1.2.1, h.2.1.2.2.1, h.2.1.2.2.2.1, h.2.1.2.2.2.2.1.mono hB, h.2.1.2.2.2.2.2.mono hB⟩, h.2.2⟩
theorem ToldG.keptB {x x' : World} {B n : Nat} {F : Nat → Int} {S : Nat → Sto} {P : Nat → Nat} (h : ToldG x B n F S P) (hb : ∀ q, B ≤ q → q < x.heap.size → x'.heap[q]? = x.heap[q]?) : ToldG x' B n F S P := fun i hi => by
  obtain ⟨N, m, g, u1, u2, h1, h2, h3⟩ := h i hi
  exact ⟨N, m, g, u1, u2, h1, h2, h3.keptB hb⟩
theorem ToldG.later {x x' : World} {B n : Nat} {F : Nat → Int} {S : Nat → Sto} {P : Nat → Nat} (h : ToldG x B n F S P) (hb : Below x.heap.size x x') : ToldG x' B n F S P := h.keptB (fun q _ hq => hb.block q hq)
theorem ToldG.mono {x : World} {B B' n : Nat} {F : Nat → Int} {S : Nat → Sto} {P : Nat → Nat} (h : ToldG x B n F S P) (hB : B' ≤ B) : ToldG x B' n F S P := fun i hi => by
  obtain ⟨N, m, g, u1, u2, h1, h2, h3⟩ := h i hi
  exact ⟨N, m, g, u1, u2, h1, h2, h3.mono hB⟩
/-- One more store that is worked on. -/
theorem ToldG.put {x : World} {B k b : Nat} {F : Nat → Int} {S : Nat → Sto} {P : Nat → Nat} (h : ToldG x B k F S P) {fr tto ep : Int} (hF : F (k * 3) = fr ∧ F (k * 3 + 1) = tto ∧ F (k * 3 + 2) = ep) (hz : storeF (S k) = 0) {g : Nat} {u1 u2 : Value} (hr : RSt x B b fr tto ep (S k).nc (cellM (S k) (S k).nc) (S k).nl (S k).l (S k).nw (S k).k g u1 u2) : ToldG x B (k + 1) F S (fun i => if i = k then b else P i) := fun i hi => by
  have Z := storeF_zero hz
  by_cases q : i = k
  · subst q
    simp only [if_pos]
    rw [hF.1, hF.2.1, hF.2.2]
    exact ⟨(S i).nc, cellM (S i) (S i).nc, g, u1, u2, ⟨by have := Z.1.1; omega, Z.1.2.1, Z.1.2.2⟩, mapSelf Z.2.1, hr⟩
  · simp only [if_neg q]
    exact h i (by omega)
/-- A new row of pointers, k of them laid. -/
def FillP (w : World) (g n k : Nat) (P : Nat → Nat) : Prop := g < w.heap.size ∧ (∀ p, p < n → (∃ u, w.cell? ⟨g, p, none⟩ = some u) ∧ w.frozen? ⟨g, p, none⟩ = false) ∧ ∀ i, i < k → w.cell? ⟨g, i, none⟩ = some (.pointer (some ⟨P i, 0, none⟩))
theorem FillP.later {w w' : World} {g n k : Nat} {P : Nat → Nat} (h : FillP w g n k P) (hb : Below w.heap.size w w') : FillP w' g n k P := by
  obtain ⟨h1, h2, h3⟩ := h
  refine ⟨Nat.lt_of_lt_of_le h1 hb.size, fun p hp => ⟨?_, (hb.frozen (p := ⟨g, p, none⟩) h1).trans (h2 p hp).2⟩, fun i hi => (hb.cell (p := ⟨g, i, none⟩) h1).trans (h3 i hi)⟩
  obtain ⟨u, hu⟩ := (h2 p hp).1
  exact ⟨u, (hb.cell (p := ⟨g, p, none⟩) h1).trans hu⟩
theorem FillP.made (w : World) (z : Array Value) (n : Nat) (e : TypeId) (P : Nat → Nat) : FillP (w.alloc (.cells (madeCells z n) e)) w.heap.size n 0 P := by
  refine ⟨by simp, fun p hp => ⟨⟨(madeCells z n)[p]'(by rw [size_madeCells]; omega), ?_⟩, by simp⟩, fun p hp => absurd hp (Nat.not_lt_zero p)⟩
  rw [World.cell?_alloc_mark]
  simp
theorem FillP.at {w : World} {g n k p : Nat} {P : Nat → Nat} (h : FillP w g n k P) (hp : p < n) : ∃ u, w.cell? ⟨g, p, none⟩ = some u ∧ w.frozen? ⟨g, p, none⟩ = false := by
  obtain ⟨⟨u, hu⟩, hf⟩ := h.2.1 p hp
  exact ⟨u, hu, hf⟩
theorem FillP.put {w : World} {g n k : Nat} {P : Nat → Nat} (h : FillP w g n k P) (hk : k < n) (b : Nat) : FillP (w.setCell ⟨g, k, none⟩ (.pointer (some ⟨b, 0, none⟩))) g n (k + 1) (fun i => if i = k then b else P i) := by
  obtain ⟨h1, h2, h3⟩ := h
  obtain ⟨u, hu⟩ := (h2 k hk).1
  refine ⟨by simpa [World.setCell] using h1, fun p hp => ⟨?_, by simp [(h2 p hp).2]⟩, fun i hi => ?_⟩
  · obtain ⟨v, hv⟩ := (h2 p hp).1
    by_cases q : p = k
    · subst q
      exact ⟨_, World.cell?_setCell_same _ _ _ hu⟩
    · exact ⟨v, by rw [World.cell?_setCell_other _ _ _ _ (by intro e; simp at e; first | done | omega)]; exact hv⟩
  · by_cases q : i = k
    · subst q
      simp only [if_pos]
      exact World.cell?_setCell_same _ _ _ hu
    · simp only [if_neg q]
      rw [World.cell?_setCell_other _ _ _ _ (by intro e; simp at e; first | done | omega)]
      exact h3 i (by omega)
theorem info_Ptr : (Tryz.prog.info? 126).map (fun i => (i.zero, i.size, i.bytes)) = some (some (.pointer none), 1, 8) := by kernel_rfl
/-- What the region that points reads: the groups' box, the store's copy in block b, the range. -/
def PtaE (w : World) (vr vs : Value) (b : Nat) (s0 s1 s2 : Value) (gr oR k : Nat) (fr tto ep : Int) (x : World) : Prop :=
  Blk2 x w.heap.size vr vs ∧ Blk3 x b s0 s1 s2 ∧ x.cell? ⟨gr, oR + k * 3, none⟩ = some (.int .i64 fr) ∧ x.cell? ⟨gr, oR + k * 3 + 1, none⟩ = some (.int .i64 tto) ∧ x.cell? ⟨gr, oR + k * 3 + 2, none⟩ = some (.int .i64 ep)
theorem PtaE.kept {w x x' : World} {vr vs : Value} {b : Nat} {s0 s1 s2 : Value} {gr oR k : Nat} {fr tto ep : Int} (h : PtaE w vr vs b s0 s1 s2 gr oR k fr tto ep x) (hb : ∀ q, q = w.heap.size ∨ q = b ∨ q = gr → x'.heap[q]? = x.heap[q]?) : PtaE w vr vs b s0 s1 s2 gr oR k fr tto ep x' := by
  obtain ⟨h1, h2, h3, h4, h5⟩ := h
  have e := hb gr (Or.inr (Or.inr rfl))
  exact ⟨h1.kept (hb _ (Or.inl rfl)), h2.kept (hb _ (Or.inr (Or.inl rfl))), (World.cell?_of_block (w := x) (a := ⟨gr, oR + k * 3, none⟩) e).trans h3, (World.cell?_of_block (w := x) (a := ⟨gr, oR + k * 3 + 1, none⟩) e).trans h4, (World.cell?_of_block (w := x) (a := ⟨gr, oR + k * 3 + 2, none⟩) e).trans h5⟩
/-- Where the row of pointers stands, k of them laid. -/
def PtaT (w : World) (vr vs : Value) (n k : Nat) (F : Nat → Int) (S : Nat → Sto) (x : World) : Prop :=
  (Below w.heap.size w x ∧ Blk2 x w.heap.size vr vs) ∧ ∃ P, FillP x (w.heap.size + 1) n k P ∧ ToldG x (w.heap.size + 2) k F S P
set_option maxRecDepth 100000 in
set_option maxHeartbeats 8000000 in
theorem pointToAll_is (nr : Nat) (F : Nat → Int) (n : Nat) (S : Nat → Sto) (V : Nat → Nat → Value) (vr vs : Value) (B : Nat) (w : World) (h : Grs w B nr F n S V vr vs) (hz : ∀ i, i < n → storeF (S i) = 0) (hn : n = nr) (hm : n ≤ 12) :
    Calls Tryz.prog 59 #[.agg #[vr, vs]] w fun e w' => ∃ g P, e = .returned (.slice (some ⟨g, 0, none⟩) n n) ∧ PtrRow w' n (some ⟨g, 0, none⟩) P ∧ ToldG w' w.heap.size n F S P ∧ Below w.heap.size w w' := by
  obtain ⟨a0, c0, a1, c1, rfl, rfl⟩ := h.form
  have HG : Hid (Grs w B nr F n S V (.slice a0 nr c0) (.slice a1 n c1)) := h
  have HZ : Hid (∀ i, i < n → storeF (S i) = 0) := hz
  have HM : Hid (n = nr) := hn
  clear h hz hn
  have hmk := make_row Tryz.underlying117 info_Ptr n (by omega) (by omega)
  have b0 : Hid (Blk2 (w.alloc (.cells #[.slice a0 nr c0, .slice a1 n c1] 40)) w.heap.size (.slice a0 nr c0) (.slice a1 n c1)) := Blk2.new w (.slice a0 nr c0) (.slice a1 n c1) 40
  obtain ⟨⟨p0, p1⟩, _⟩ := b0.out
  have q0 := (b0.out.alloc (.cells (madeCells #[Value.pointer none] n) 126)).1
  obtain ⟨q0, q1⟩ := q0
  go_enter Tryz.func59, Tryz.ntmps59
  go_wp2
  go_loopw [13] (fun i wr => ∃ k : Nat, k ≤ n ∧ i = .int .i64 k ∧ Hid (PtaT w (.slice a0 nr c0) (.slice a1 n c1) n k F S wr)) (fun i _ => n - (intOf i).toNat)
  case atStart =>
    refine ⟨0, Nat.zero_le _, rfl, ⟨(below_alloc _ _).alloc (by simp) _, b0.out.alloc _⟩, fun _ => 0, ?_, fun i hi => absurd hi (Nat.not_lt_zero i)⟩
    have := FillP.made (w.alloc (.cells #[.slice a0 nr c0, .slice a1 n c1] 40)) #[Value.pointer none] n 126 (fun _ => 0)
    rwa [World.size_alloc] at this
  case round =>
    obtain ⟨k, hk, rfl, hR⟩ := hrel
    by_cases hlt : k < n
    · have hkr : k < nr := by have := HM.out; omega
      obtain ⟨g, o, rfl, _, hg, ⟨b0', b1', b2'⟩, sk⟩ := HG.out.2.at hlt
      obtain ⟨gr, oR, rfl, _, hgr, t0, t1, t2⟩ := HG.out.1.at3 hkr
      obtain ⟨i0', d0', i1', d1', i2', d2', e0', e1', e2'⟩ := sk.form
      rw [e0'] at b0'
      rw [e1'] at b1'
      rw [e2'] at b2'
      rw [e0', e1', e2'] at sk
      obtain ⟨fr, hfr⟩ : ∃ x, F (k * 3) = x := ⟨_, rfl⟩
      obtain ⟨tto, hto⟩ : ∃ x, F (k * 3 + 1) = x := ⟨_, rfl⟩
      obtain ⟨ep, hep⟩ : ∃ x, F (k * 3 + 2) = x := ⟨_, rfl⟩
      rw [hfr] at t0
      rw [hto] at t1
      rw [hep] at t2
      have HF : Hid (F (k * 3) = fr ∧ F (k * 3 + 1) = tto ∧ F (k * 3 + 2) = ep) := ⟨hfr, hto, hep⟩
      have y0 := (hR.out.1.1.cell (p := ⟨g, o + k * 3, none⟩) hg).trans b0'
      have y1 := (hR.out.1.1.cell (p := ⟨g, o + k * 3 + 1, none⟩) hg).trans b1'
      have y2 := (hR.out.1.1.cell (p := ⟨g, o + k * 3 + 2, none⟩) hg).trans b2'
      have x0 := (hR.out.1.1.cell (p := ⟨gr, oR + k * 3, none⟩) hgr).trans t0
      have x1 := (hR.out.1.1.cell (p := ⟨gr, oR + k * 3 + 1, none⟩) hgr).trans t1
      have x2 := (hR.out.1.1.cell (p := ⟨gr, oR + k * 3 + 2, none⟩) hgr).trans t2
      obtain ⟨n0, hn0⟩ : ∃ x, (S k).nc = x := ⟨_, rfl⟩
      obtain ⟨n1, hn1⟩ : ∃ x, (S k).nl = x := ⟨_, rfl⟩
      obtain ⟨n2, hn2⟩ : ∃ x, (S k).nw = x := ⟨_, rfl⟩
      rw [hn0] at y0
      rw [hn1] at y1
      rw [hn2] at y2
      rw [hn0, hn1, hn2] at sk
      have SK : Hid (St wr B (S k) (.slice i0' n0 d0') (.slice i1' n1 d1') (.slice i2' n2 d2')) := sk.later hR.out.1.1
      clear hfr hto hep sk e0' e1' e2' b0' b1' b2' t0 t1 t2 hn0 hn1 hn2
      have zz : Hid (w.heap.size + 2 ≤ wr.heap.size) := by obtain ⟨_, P, hF, _⟩ := hR.out; have := hF.1; unfold Hid; omega
      have ZW : Hid (gr < w.heap.size) := hgr
      have HS0 : Hid (PtaE w (.slice (some ⟨gr, oR, none⟩) nr c0) (.slice (some ⟨g, o, none⟩) n c1) wr.heap.size (.slice i0' n0 d0') (.slice i1' n1 d1') (.slice i2' n2 d2') gr oR k fr tto ep (wr.alloc (.cells #[.slice i0' n0 d0', .slice i1' n1 d1', .slice i2' n2 d2'] 107))) := ⟨hR.out.1.2.alloc _, Blk3.new wr _ _ _ _, ((below_alloc wr _).cell (p := ⟨gr, oR + k * 3, none⟩) (by show gr < wr.heap.size; have := zz.out; have := ZW.out; omega)).trans x0, ((below_alloc wr _).cell (p := ⟨gr, oR + k * 3 + 1, none⟩) (by show gr < wr.heap.size; have := zz.out; have := ZW.out; omega)).trans x1, ((below_alloc wr _).cell (p := ⟨gr, oR + k * 3 + 2, none⟩) (by show gr < wr.heap.size; have := zz.out; have := ZW.out; omega)).trans x2⟩
      clear x0 x1 x2 hg hgr p0 p1 q0 q1 hmk
      go_upto_region 5 with fail
      refine wp_region_held_drew (S := PtaE w (.slice (some ⟨gr, oR, none⟩) nr c0) (.slice (some ⟨g, o, none⟩) n c1) wr.heap.size (.slice i0' n0 d0') (.slice i1' n1 d1') (.slice i2' n2 d2') gr oR k fr tto ep) (by kernel_rfl) (HS0.out.kept (fun _ _ => rfl)) (fun hS => ?_)
      clear y0 y1 y2
      refine tkH 0 ?_ hS (fun wx hx => ?_) ?_; rotate_left
      · obtain ⟨⟨⟨hx0, hx1⟩, _⟩, ⟨⟨hx2, hx3, hx4⟩, _⟩, hx5, hx6, hx7⟩ := hx; go_simp; try with_reducible rfl
      refine tkH 1 ?_ hS (fun wx hx => ?_) ?_; rotate_left
      · obtain ⟨⟨⟨hx0, hx1⟩, _⟩, ⟨⟨hx2, hx3, hx4⟩, _⟩, hx5, hx6, hx7⟩ := hx; go_simp; try with_reducible rfl
      refine tkH 2 ?_ hS (fun wx hx => ?_) ?_; rotate_left
      · obtain ⟨⟨⟨hx0, hx1⟩, _⟩, ⟨⟨hx2, hx3, hx4⟩, _⟩, hx5, hx6, hx7⟩ := hx; go_simp; try with_reducible rfl
      refine tkH 3 ?_ hS (fun wx hx => ?_) ?_; rotate_left
      · obtain ⟨⟨⟨hx0, hx1⟩, _⟩, ⟨⟨hx2, hx3, hx4⟩, _⟩, hx5, hx6, hx7⟩ := hx; go_simp; try with_reducible rfl
      refine tkH 4 ?_ hS (fun wx hx => ?_) ?_; rotate_left
      · obtain ⟨⟨⟨hx0, hx1⟩, _⟩, ⟨⟨hx2, hx3, hx4⟩, _⟩, hx5, hx6, hx7⟩ := hx; go_simp; try with_reducible rfl
      refine tkH 5 ?_ hS (fun wx hx => ?_) ?_; rotate_left
      · obtain ⟨⟨⟨hx0, hx1⟩, _⟩, ⟨⟨hx2, hx3, hx4⟩, _⟩, hx5, hx6, hx7⟩ := hx; go_simp; try with_reducible rfl
      refine tkH 6 ?_ hS (fun wx hx => ?_) ?_; rotate_left
      · obtain ⟨⟨⟨hx0, hx1⟩, _⟩, ⟨⟨hx2, hx3, hx4⟩, _⟩, hx5, hx6, hx7⟩ := hx; go_simp; try with_reducible rfl
      refine tkH 7 ?_ hS (fun wx hx => ?_) ?_; rotate_left
      · obtain ⟨⟨⟨hx0, hx1⟩, _⟩, ⟨⟨hx2, hx3, hx4⟩, _⟩, hx5, hx6, hx7⟩ := hx; go_simp; try with_reducible rfl
      refine rdH 8 (fun K hK => ?_)
      go_simp
      go_wp2_with fail
      refine (pointTo_is (S k) _ _ _ fr tto ep B _ (SK.out.later ((below_alloc _ _).drew)) (HZ.out k hlt)).mono ?_
      rintro e w4 ⟨b, gm, u1, u2, rfl, hRS, q4⟩
      have q4' : Below wr.heap.size wr w4 := (below_alloc wr _).trans (Below.mono ⟨q4.os, q4.tape, q4.output, q4.size, q4.block⟩ (by simp))
      have z4 : Hid (wr.heap.size ≤ w4.heap.size) := q4'.size
      have RS : Hid (RSt w4 (w.heap.size + 2) b fr tto ep (S k).nc (cellM (S k) (S k).nc) (S k).nl (S k).l (S k).nw (S k).k gm u1 u2) := hRS.mono (by have := zz.out; simp; omega)
      have R4 : Hid ((Below w.heap.size w w4 ∧ Blk2 w4 w.heap.size (.slice (some ⟨gr, oR, none⟩) nr c0) (.slice (some ⟨g, o, none⟩) n c1)) ∧ ∃ P, FillP w4 (w.heap.size + 1) n k P ∧ ToldG w4 (w.heap.size + 2) k F S P) := by
        obtain ⟨⟨h1, h2⟩, P, h3, h4⟩ := hR.out
        exact ⟨⟨h1.trans (q4'.mono h1.size), h2.later q4'⟩, P, h3.later q4', h4.later q4'⟩
      have hS' := hS.kept (x' := w4) (fun q hq => q4.block q (by have := zz.out; have := ZW.out; simp; rcases hq with e | e | e <;> omega))
      clear q4 q4' hRS hR HS0 SK
      go_wp2_with fail
      refine hK.out _ _ hS' (fun hS => ?_)
      clear hK K hS'
      refine tkH 9 ?_ hS (fun wx hx => ?_) ?_; rotate_left
      · obtain ⟨⟨⟨hx0, hx1⟩, _⟩, ⟨⟨hx2, hx3, hx4⟩, _⟩, hx5, hx6, hx7⟩ := hx; go_simp; try with_reducible rfl
      obtain ⟨⟨h1, h2⟩, P, h3, h4⟩ := R4.out
      obtain ⟨ux, x0, x1⟩ := h3.at hlt
      have R5 : Hid (PtaT w (.slice (some ⟨gr, oR, none⟩) nr c0) (.slice (some ⟨g, o, none⟩) n c1) n (k + 1) F S (w4.setCell ⟨w.heap.size + 1, k, none⟩ (.pointer (some ⟨b, 0, none⟩)))) := ⟨⟨h1.setCell (Nat.le_succ _) _, h2.kept (Below.heap_setCell _ _ _ _ (by show w.heap.size ≠ w.heap.size + 1; omega))⟩, _, h3.put hlt b, (h4.put HF.out (HZ.out k hlt) RS.out).keptB (fun q hq _ => Below.heap_setCell _ _ _ q (by show q ≠ w.heap.size + 1; omega))⟩
      clear h1 h2 h3 h4 R4 RS
      refine rdH 10 (fun K hK => ?_)
      go_simp
      have hS' := hS.kept (x' := w4.setCell ⟨w.heap.size + 1, k, none⟩ (.pointer (some ⟨b, 0, none⟩))) (fun q hq => Below.heap_setCell _ _ _ q (by show q ≠ w.heap.size + 1; have := zz.out; have := ZW.out; rcases hq with e | e | e <;> omega))
      refine hK.out _ _ hS' (fun hS => ?_)
      clear hK K hS'
      refine wpAnyH_done (by kernel_rfl) ?_ _
      clear hS x0 x1
      go_simp
      generalize w4.setCell ⟨w.heap.size + 1, k, none⟩ (.pointer (some ⟨b, 0, none⟩)) = x4 at R5 ⊢
      go_wp2
      go_roundw
      case rel => exact ⟨k + 1, by omega, by go_num, R5⟩
      case measure => simp [intOf]; omega
    · obtain rfl : k = n := by omega
      go_wp2
      go_ret
      obtain ⟨⟨hB, _⟩, P, hF, hT⟩ := hR.out
      exact ⟨w.heap.size + 1, P, rfl, fun _ => ⟨_, _, rfl, hF.1, fun i hi => by rw [Nat.zero_add]; exact hF.2.2 i hi⟩, hT.mono (by omega), hB⟩
end

section
open Go.RowKit Go.Maps
theorem listU_inv {V : Nat → Nat → Value} {n j : Nat} {u : Value} (h : (listU V n)[j]? = some u) : ∃ i r, i < n ∧ r < 3 ∧ j = i * 3 + r ∧ u = V i r := by
  have hj : j < n * 3 := by
    have := (List.getElem?_eq_some_iff.1 h).1
    rw [listU_len] at this
    exact this
  obtain ⟨h0, h1, h2⟩ := listU_at V n (j / 3) (by omega)
  have e : j = j / 3 * 3 + j % 3 := by omega
  have hr : j % 3 = 0 ∨ j % 3 = 1 ∨ j % 3 = 2 := by omega
  rcases hr with r | r | r
  · refine ⟨j / 3, 0, by omega, by omega, by omega, ?_⟩
    rw [show j / 3 * 3 = j by omega, h] at h0
    exact Option.some.inj h0
  · refine ⟨j / 3, 1, by omega, by omega, by omega, ?_⟩
    rw [show j / 3 * 3 + 1 = j by omega, h] at h1
    exact Option.some.inj h1
  · refine ⟨j / 3, 2, by omega, by omega, by omega, ?_⟩
    rw [show j / 3 * 3 + 2 = j by omega, h] at h2
    exact Option.some.inj h2
theorem St.slices {w : World} {B : Nat} {S : Sto} {u0 u1 u2 : Value} (h : St w B S u0 u1 u2) : u0.oneCell' = true ∧ u1.oneCell' = true ∧ u2.oneCell' = true := by
  obtain ⟨a0, c0, a1, c1, a2, c2, rfl, rfl, rfl⟩ := h.form
  exact ⟨rfl, rfl, rfl⟩
theorem Stos.one {w : World} {B n : Nat} {S : Nat → Sto} {V : Nat → Nat → Value} {v : Value} (h : Stos w B n S V v) : ∀ u ∈ listU V n, u.oneCell' = true := fun u hu => by
  obtain ⟨j, hj⟩ := List.getElem?_of_mem hu
  obtain ⟨i, r, hi, hr, _, rfl⟩ := listU_inv hj
  obtain ⟨h0, h1, h2⟩ := (h.2 i hi).slices
  have hr : r = 0 ∨ r = 1 ∨ r = 2 := by omega
  rcases hr with rfl | rfl | rfl
  · exact h0
  · exact h1
  · exact h2
theorem Stos.cells {w : World} {B n : Nat} {S : Nat → Sto} {V : Nat → Nat → Value} {a : Addr} {cp : Nat} (h : Stos w B n S V (.slice (some a) n cp)) : ∀ j u, (listU V n)[j]? = some u → w.cell? (a.add j) = some u := fun j u hu => by
  obtain ⟨i, r, hi, hr, rfl, rfl⟩ := listU_inv hu
  obtain ⟨ao, cp', hv, h'⟩ := h.1
  obtain ⟨g, o, rfl, _, _, hc⟩ := h' (by omega)
  simp only [Value.slice.injEq, Option.some.injEq] at hv
  obtain ⟨rfl, _⟩ := hv
  rw [WideShapes.add_plain]
  obtain ⟨h0, h1, h2⟩ := hc i hi
  have hr : r = 0 ∨ r = 1 ∨ r = 2 := by omega
  rcases hr with rfl | rfl | rfl
  · exact h0
  · rw [← Nat.add_assoc]; exact h1
  · rw [← Nat.add_assoc]; exact h2
end

section
open Go.RowKit Go.Maps
end

section
open Go.RowKit Go.Maps
end
end
end Go.Proofs.YtdbcmckoiacemaaGreat

namespace Go.Proofs.YtdbcmckoiacemaaGreat
section
open Go.RowKit
theorem Stos.o {w : World} {n : Nat} {S : Nat → Sto} {V : Nat → Nat → Value} {g o c1 : Nat} (h : Stos w 0 n S V (.slice (some ⟨g, o, none⟩) n c1)) {j : Nat} (hj : j < n) : LiesO w g (o + j * 3) (S j) (V j 0) (V j 1) (V j 2) := by
  obtain ⟨g', o', e, _, _, b, s⟩ := h.at hj
  simp only [Option.some.injEq, Addr.mk.injEq] at e
  obtain ⟨rfl, rfl, _⟩ := e
  exact ⟨b, s⟩
end

section
open Go.RowKit
end
end Go.Proofs.YtdbcmckoiacemaaGreat

namespace Go.Proofs.YtdbcmckoiacemaaGreat
section
open Go.RowKit Go.Maps
/-- The rows of pointers that are worked on, and what they point at. -/
def Work (x : World) (B n : Nat) (F : Nat → Int) (S : Nat → Sto) (pa : Option Addr) (P : Nat → Nat) : Prop := PtrRow x n pa P ∧ ToldG x B n F S P
theorem PtrRow.later {x x' : World} {n : Nat} {pa : Option Addr} {P : Nat → Nat} (h : PtrRow x n pa P) (hb : Below x.heap.size x x') : PtrRow x' n pa P := fun hn => by
  obtain ⟨gp, op, e, hg, hc⟩ := h hn
  exact ⟨gp, op, e, Nat.lt_of_lt_of_le hg hb.size, fun i hi => (hb.cell (p := ⟨gp, op + i, none⟩) hg).trans (hc i hi)⟩
theorem Work.later {x x' : World} {B n : Nat} {F : Nat → Int} {S : Nat → Sto} {pa : Option Addr} {P : Nat → Nat} (h : Work x B n F S pa P) (hb : Below x.heap.size x x') : Work x' B n F S pa P := ⟨h.1.later hb, h.2.later hb⟩
def StE (bc p : Nat) (key tto : Int) (x : World) : Prop := x.cell? ⟨bc, 0, none⟩ = some (.int .i64 key) ∧ x.cell? ⟨p, 1, none⟩ = some (.int .i64 tto)
theorem storeOf1_is (p bc : Nat) (key tto : Int) (r : Bool) (hr : decide (key < tto) = r) (w : World) (hc : w.cell? ⟨bc, 0, none⟩ = some (.int .i64 key)) (hp : w.cell? ⟨p, 1, none⟩ = some (.int .i64 tto)) :
    Calls Tryz.prog 103 #[.pointer (some ⟨p, 0, none⟩), .pointer (some ⟨bc, 0, none⟩)] w fun e w' => e = .returned (.bool r) ∧ Below w.heap.size w w' := by
  go_enter Tryz.func103, Tryz.ntmps103
  go_wp2_with fail
  refine wp_region_held_drew (S := StE bc p key tto) (by kernel_rfl) ⟨hc, hp⟩ (fun hS => ?_)
  clear hc hp
  refine tkH 0 ?_ hS (fun wx hx => ?_) ?_; rotate_left
  · obtain ⟨hx0, hx1⟩ := hx; go_simp; try with_reducible rfl
  refine tkH 1 ?_ hS (fun wx hx => ?_) ?_; rotate_left
  · obtain ⟨hx0, hx1⟩ := hx; go_simp; try with_reducible rfl
  refine tkH 2 ?_ hS (fun wx hx => ?_) ?_; rotate_left
  · obtain ⟨hx0, hx1⟩ := hx; go_simp; try with_reducible rfl
  refine tkH 3 ?_ hS (fun wx hx => ?_) ?_; rotate_left
  · obtain ⟨hx0, hx1⟩ := hx; go_simp; try with_reducible rfl
  refine tkH 4 ?_ hS (fun wx hx => ?_) ?_; rotate_left
  · obtain ⟨hx0, hx1⟩ := hx; go_simp; try with_reducible rfl
  refine tkH 5 ?_ hS (fun wx hx => ?_) ?_; rotate_left
  · obtain ⟨hx0, hx1⟩ := hx; go_simp; try with_reducible rfl
  refine tkH 6 ?_ hS (fun wx hx => ?_) ?_; rotate_left
  · obtain ⟨hx0, hx1⟩ := hx; go_simp; try with_reducible rfl
  refine tkH 7 ?_ hS (fun wx hx => ?_) ?_; rotate_left
  · obtain ⟨hx0, hx1⟩ := hx; go_simp; try with_reducible rfl
  refine wpAnyH_done (by kernel_rfl) ?_ _
  clear hS
  go_simp
  go_wp2
  go_ret
  exact ⟨by first | rfl | (rw [← hr]; rfl) | rw [hr], below_dr (Below.refl _ _) 1⟩
set_option maxRecDepth 100000 in
set_option maxHeartbeats 4000000 in
theorem indexWork_is (bc : Nat) (key : Int) (B n : Nat) (F : Nat → Int) (S : Nat → Sto) (pa : Option Addr) (cp : Nat) (P : Nat → Nat) (j : Nat) (w : World) (h : Work w B n F S pa P) (hj : AtR n F key j) (hn : n ≤ 12) (hw : w.cell? ⟨bc, 0, none⟩ = some (.int .i64 key)) :
    Calls Tryz.prog 102 #[.slice pa n cp, .func (.func 103) #[] #[.pointer (some ⟨bc, 0, none⟩)]] w fun e w' => e = .returned (.int .i64 j) ∧ Below w.heap.size w w' := by
  have hbc := World.block_lt_of_cell? w _ hw
  have hjn := hj.1
  obtain ⟨gp, op, rfl, hg, hc⟩ := h.1 (by omega)
  have H : Hid (Work w B n F S (some ⟨gp, op, none⟩) P) := h
  have HJ : Hid (AtR n F key j) := hj
  have HC0 : Hid (∀ i, i < n → w.cell? ⟨gp, op + i, none⟩ = some (.pointer (some ⟨P i, 0, none⟩))) := hc
  have HW : Hid (w.cell? ⟨bc, 0, none⟩ = some (.int .i64 key)) := hw
  clear h hj hw hc
  go_enter Tryz.func102, Tryz.ntmps102
  go_wp2
  go_loopw [8] (fun i wr => ∃ k : Nat, k ≤ j ∧ i = .int .i64 k ∧ Hid (Below w.heap.size w wr)) (fun i _ => n - (intOf i).toNat)
  case atStart => exact ⟨0, Nat.zero_le _, rfl, Below.refl _ _⟩
  case round =>
    obtain ⟨k, hk, rfl, HB⟩ := hrel
    have hlt : k < n := by omega
    have x0 : wr.cell? ⟨gp, op + k, none⟩ = some (.pointer (some ⟨P k, 0, none⟩)) := (HB.out.cell (p := ⟨gp, op + k, none⟩) hg).trans (HC0.out k hlt)
    obtain ⟨N, m, gm, u1, u2, _, _, hR⟩ := (H.out.later HB.out).2 k hlt
    have t1 := hR.1.2.1
    obtain ⟨tto, hto⟩ : ∃ x, F (k * 3 + 1) = x := ⟨_, rfl⟩
    rw [hto] at t1
    have T1 : Hid (wr.cell? ⟨P k, 1, none⟩ = some (.int .i64 tto)) := t1
    have HC : Hid (wr.cell? ⟨bc, 0, none⟩ = some (.int .i64 key)) := (HB.out.cell (p := ⟨bc, 0, none⟩) hbc).trans HW.out
    clear hR t1
    by_cases hkj : k = j
    · subst hkj
      have D : Hid (decide (key < tto) = true) := decide_eq_true (by rw [← hto]; exact HJ.out.2.1)
      clear hto
      go_wp2_with fail
      refine (storeOf1_is (P k) bc key tto true D.out _ HC.out T1.out).mono ?_
      rintro e w1 ⟨rfl, q1⟩
      have HB1 : Hid (Below w.heap.size w w1) := HB.out.trans (q1.mono HB.out.size)
      clear q1
      go_wp2
      go_ret
      exact ⟨rfl, HB1.out⟩
    · have D : Hid (decide (key < tto) = false) := decide_eq_false (by rw [← hto]; have := HJ.out.2.2 k (by omega); omega)
      clear hto
      go_wp2_with fail
      refine (storeOf1_is (P k) bc key tto false D.out _ HC.out T1.out).mono ?_
      rintro e w1 ⟨rfl, q1⟩
      have HB1 : Hid (Below w.heap.size w w1) := HB.out.trans (q1.mono HB.out.size)
      clear q1
      go_wp2
      go_roundw
      case rel => exact ⟨k + 1, by omega, by go_num, HB1⟩
      case measure => simp [intOf]; omega
set_option maxRecDepth 100000 in
set_option maxHeartbeats 2000000 in
theorem storeOf_is (key : Int) (B n : Nat) (F : Nat → Int) (S : Nat → Sto) (pa : Option Addr) (cp : Nat) (P : Nat → Nat) (j : Nat) (w : World) (h : Work w B n F S pa P) (hj : AtR n F key j) (hn : n ≤ 12) :
    Calls Tryz.prog 62 #[.slice pa n cp, .int .i64 key] w fun e w' => e = .returned (.pointer (some ⟨P j, 0, none⟩)) ∧ Below w.heap.size w w' := by
  have hjn := hj.1
  obtain ⟨gp, op, rfl, hg, hc⟩ := h.1 (by omega)
  have H : Hid (Work w B n F S (some ⟨gp, op, none⟩) P) := h
  have HJ : Hid (AtR n F key j) := hj
  have HC0 : Hid (w.cell? ⟨gp, op + j, none⟩ = some (.pointer (some ⟨P j, 0, none⟩))) := hc j hjn
  clear h hj hc
  have hjj : (j : Int) < (n : Int) := by omega
  go_enter Tryz.func62, Tryz.ntmps62
  go_wp2_with fail
  refine (indexWork_is w.heap.size key B n F S _ _ P j _ (H.out.later (below_alloc _ _)) HJ.out hn (World.cell?_alloc_mark w _ _ _ 0)).mono ?_
  rintro e w1 ⟨rfl, q1⟩
  have HB1 : Hid (Below w.heap.size w w1) := (below_alloc _ _).trans (q1.mono (by simp))
  have x0 : w1.cell? ⟨gp, op + j, none⟩ = some (.pointer (some ⟨P j, 0, none⟩)) := (HB1.out.cell (p := ⟨gp, op + j, none⟩) hg).trans HC0.out
  clear q1
  go_wp2
  go_ret
  exact ⟨rfl, HB1.out⟩
end

section
open Go.RowKit
end

section
open Go.RowKit
end
end Go.Proofs.YtdbcmckoiacemaaGreat

namespace Go.Proofs.YtdbcmckoiacemaaGreat
open Go.RowKit

/-- Five cells of a block. -/
def Blk5w (x : World) (b : Nat) (a0 a1 a2 a3 a4 : Value) : Prop := (x.cell? ⟨b, 0, none⟩ = some a0 ∧ x.cell? ⟨b, 1, none⟩ = some a1 ∧ x.cell? ⟨b, 2, none⟩ = some a2 ∧ x.cell? ⟨b, 3, none⟩ = some a3 ∧ x.cell? ⟨b, 4, none⟩ = some a4) ∧ ∀ j, x.frozen? ⟨b, j, none⟩ = false
theorem Blk5w.kept {x x' : World} {b : Nat} {a0 a1 a2 a3 a4 : Value} (h : Blk5w x b a0 a1 a2 a3 a4) (hb : x'.heap[b]? = x.heap[b]?) : Blk5w x' b a0 a1 a2 a3 a4 := by
  have hc : ∀ j, x'.cell? ⟨b, j, none⟩ = x.cell? ⟨b, j, none⟩ := fun j => World.cell?_of_block (w := x) hb
  have hf : ∀ j, x'.frozen? ⟨b, j, none⟩ = x.frozen? ⟨b, j, none⟩ := fun j => World.frozen?_of_block (w := x) hb
  obtain ⟨⟨h0, h1, h2, h3, h4⟩, h5⟩ := h
  exact ⟨⟨(hc 0).trans h0, (hc 1).trans h1, (hc 2).trans h2, (hc 3).trans h3, (hc 4).trans h4⟩, fun j => (hf j).trans (h5 j)⟩
theorem Blk5w.lt {x : World} {b : Nat} {a0 a1 a2 a3 a4 : Value} (h : Blk5w x b a0 a1 a2 a3 a4) : b < x.heap.size := World.block_lt_of_cell? x _ h.1.1
theorem Blk5w.later {x x' : World} {b : Nat} {a0 a1 a2 a3 a4 : Value} (h : Blk5w x b a0 a1 a2 a3 a4) (hb : Below x.heap.size x x') : Blk5w x' b a0 a1 a2 a3 a4 := h.kept (hb.block b h.lt)
/-- The cells of n transactions, one behind the other. -/
def tvals (T : Nat → Tx) (Y : Nat → Value) : Nat → List Value
  | 0 => []
  | n + 1 => tvals T Y n ++ [.int .i64 (T n).s, .int .i64 (T n).c, .int .i64 (T n).u, .int .i64 (T n).st, .int .i64 (T n).a, Y n]
theorem tvals_length (T : Nat → Tx) (Y : Nat → Value) : ∀ n, (tvals T Y n).length = n * 6
  | 0 => rfl
  | n + 1 => by
    rw [tvals, List.length_append, tvals_length T Y n]
    simp only [List.length_cons, List.length_nil]
    omega
theorem tvals_get (T : Nat → Tx) (Y : Nat → Value) : ∀ (n i j : Nat), i < n → j < 6 → (tvals T Y n)[i * 6 + j]? = some (txV (T i) (Y i) j)
  | 0, i, _, hi, _ => absurd hi (Nat.not_lt_zero i)
  | n + 1, i, j, hi, hj => by
    rw [tvals]
    rcases Nat.lt_or_ge i n with q | q
    · rw [List.getElem?_append_left (by rw [tvals_length]; omega)]
      exact tvals_get T Y n i j q hj
    · obtain rfl : i = n := by omega
      rw [List.getElem?_append_right (by rw [tvals_length]; omega), tvals_length, show i * 6 + j - i * 6 = j by omega]
      match j, hj with
      | 0, _ => rfl
      | 1, _ => rfl
      | 2, _ => rfl
      | 3, _ => rfl
      | 4, _ => rfl
      | 5, _ => rfl
theorem tvals_congr {T : Nat → Tx} {Y Z : Nat → Value} : ∀ {n : Nat}, (∀ i, i < n → Y i = Z i) → tvals T Y n = tvals T Z n
  | 0, _ => rfl
  | n + 1, h => by rw [tvals, tvals, tvals_congr (fun i hi => h i (by omega)), h n (by omega)]
/-- Transactions under way: a row of their own, items of their own. -/
structure WrkT (x : World) (B n : Nat) (T : Nat → Tx) (Y : Nat → Value) (v : Value) : Prop where
  own : x.ownsRow B 94 6 v n (tvals T Y n)
  items : ∀ i, i < n → Row x B 3 (T i).m (T i).L (Y i) ∧ CapOk (Y i) ∧ (0 < (T i).m → ∀ k, (Y i).ownBlock = some k → v.ownBlock ≠ some k ∧ k < x.heap.size)
theorem WrkT.txs {x : World} {B n : Nat} {T : Nat → Tx} {Y : Nat → Value} {v : Value} (h : WrkT x B n T Y v) : Txs x B n T Y v := by
  refine ⟨?_, fun i hi => ⟨(h.items i hi).1, (h.items i hi).2.1⟩⟩
  rcases h.own.2 with ⟨rfl, rfl⟩ | ⟨g, cap, cur, rfl, hB, hg, _⟩
  · exact ⟨_, _, rfl, fun q => absurd q (Nat.lt_irrefl 0)⟩
  · refine ⟨_, _, rfl, fun hn => ⟨g, 0, rfl, hB, (Array.getElem?_eq_some_iff.1 hg).1, fun i hi j hj => ?_⟩⟩
    rw [Nat.zero_add, World.ownsRow.cellAt h.own _ (by omega), tvals_get T Y n i j hi hj]
theorem WrkT.grown {x x' : World} {B n : Nat} {T : Nat → Tx} {Y : Nat → Value} {v : Value} {row : Option Nat} (h : WrkT x B n T Y v) (hg : x.grownBy x' row) (hv : ∀ k, v.ownBlock = some k → row ≠ some k) (hi : ∀ i, i < n → 0 < (T i).m → ∀ k, (Y i).ownBlock = some k → row ≠ some k) : WrkT x' B n T Y v :=
  ⟨h.own.kept hg (by cases hq : v.ownBlock with | none => exact Or.inl rfl | some k => exact Or.inr (fun e => hv k hq e.symm)), fun i hin => ⟨(h.items i hin).1.turned hg (fun h0 k hk e => hi i hin h0 k hk e.symm), (h.items i hin).2.1, fun h0 k hk => ⟨((h.items i hin).2.2 h0 k hk).1, Nat.lt_of_lt_of_le ((h.items i hin).2.2 h0 k hk).2 hg.size⟩⟩⟩
theorem WrkT.later {x x' : World} {B n : Nat} {T : Nat → Tx} {Y : Nat → Value} {v : Value} (h : WrkT x B n T Y v) (hb : Below x.heap.size x x') : WrkT x' B n T Y v :=
  h.grown (row := none) ⟨hb.os, hb.tape, hb.output, hb.size, fun i hi _ => hb.block i hi⟩ (fun _ _ e => by cases e) (fun _ _ _ _ _ e => by cases e)
/-- One more. -/
theorem WrkT.put {x : World} {B n : Nat} {T : Nat → Tx} {Y : Nat → Value} {v : Value} (h : WrkT x B n T Y v) {y v' : Value} {x' : World} (hy : Row x B 3 (T n).m (T n).L y ∧ CapOk y) (hyb : 0 < (T n).m → ∀ k, y.ownBlock = some k → v.ownBlock ≠ some k ∧ k < x.heap.size)
    (ho : x'.ownsRow B 94 6 v' (n + 1) (tvals T Y n ++ [.int .i64 (T n).s, .int .i64 (T n).c, .int .i64 (T n).u, .int .i64 (T n).st, .int .i64 (T n).a, y])) (hg : x.grownBy x' v.ownBlock) (hv' : ∀ k, v'.ownBlock = some k → v.ownBlock = some k ∨ x.heap.size ≤ k) : WrkT x' B (n + 1) T (fun i => if i = n then y else Y i) v' := by
  refine ⟨?_, fun i hi => ?_⟩
  · rw [tvals, if_pos rfl, tvals_congr (Z := Y) (fun i hi => if_neg (by omega))]
    exact ho
  · have hall : Row x B 3 (T i).m (T i).L (if i = n then y else Y i) ∧ CapOk (if i = n then y else Y i) ∧ (0 < (T i).m → ∀ k, (if i = n then y else Y i).ownBlock = some k → v.ownBlock ≠ some k ∧ k < x.heap.size) := by
      by_cases q : i = n
      · subst q
        rw [if_pos rfl]
        exact ⟨hy.1, hy.2, hyb⟩
      · rw [if_neg q]
        exact h.items i (by omega)
    refine ⟨hall.1.turned hg (fun h0 k hk e => (hall.2.2 h0 k hk).1 e.symm), hall.2.1, fun h0 k hk => ?_⟩
    have := hall.2.2 h0 k hk
    exact ⟨fun e => (hv' k e).elim this.1 (fun q => by omega), Nat.lt_of_lt_of_le this.2 hg.size⟩
end Go.Proofs.YtdbcmckoiacemaaGreat

namespace Go.Proofs.YtdbcmckoiacemaaGreat
open Go.RowKit

theorem run_appX (t ty e : TypeId) (i : TypeInfo) (z : Value) (m bytes : Nat) (ht : Tryz.prog.underlying t = some (.slice e)) (hi : Tryz.prog.info? e = some i) (hz : i.zero = some z) (hsize : i.size = m) (hby : i.bytes = bytes) (hzs : z.cells.size = m) (hm : 0 < m) (hb5 : bytes ≤ 1000)
    (w : World) (base n0 : Nat) (L : List Int) (v : Value) (hown : OwnM w base e m v n0 L) (B n : Nat) (F : Nat → Int) (x : Value) (h : Row w B m n F x) (hn : n0 + n ≤ 2097152) (hbase : base ≤ w.heap.size) :
    ∃ ao cp w', (Builtin.append_ #[t, t] ty #[v, x]).run Tryz.prog w = .ok (.slice ao (n0 + n) cp) w' ∧ OwnM w' base e m (.slice ao (n0 + n) cp) (n0 + n) (L ++ nums F (n * m)) ∧ w.grownBy w' v.ownBlock ∧ ((Value.slice ao (n0 + n) cp).ownBlock = v.ownBlock ∨ (Value.slice ao (n0 + n) cp).ownBlock = some w.heap.size) := by
  have hbb : (n0 + n) * bytes ≤ 2097152 * 1000 := Nat.mul_le_mul hn hb5
  obtain ⟨ao, cp, rfl⟩ := h.form
  cases ao with
  | none =>
    have e0 : n = 0 := by
      rcases Nat.eq_zero_or_pos n with q | q
      · exact q
      · obtain ⟨g, o, hg, _⟩ := h.at q
        cases hg
    subst e0
    obtain ⟨av, cv, rfl⟩ := hown.form
    refine ⟨av, cv, w, ?_, ?_, ⟨rfl, rfl, rfl, Nat.le_refl _, fun _ _ _ => rfl⟩, Or.inl rfl⟩
    · rcases hown.2 with ⟨q, _⟩ | ⟨g, cap, cur, q, _, _, hnc, _⟩
      · cases q
        simp [Builtin.append_, run_underlying ht, sizeOf, typeInfo, hi, Builtin.lenOf, Builtin.firstCells]
      · cases q
        simp [Builtin.append_, run_underlying ht, sizeOf, typeInfo, hi, Builtin.lenOf, Builtin.firstCells, hnc, storeCells]
    · simpa [nums] using hown
  | some a =>
    obtain ⟨v', w', h1, h2, h3, _, h5⟩ := run_append_own_at (P := Tryz.prog) w base t ty e i z m bytes ht hi hz hsize hby hzs hm v n0 _ hown a n cp (vals F (n * m)) (vals_length _ _) (row_cells h) (vals_one _ _) (by unfold maxLen; omega) (by omega) hbase
    have h2' : OwnM w' base e m v' (n0 + n) (L ++ nums F (n * m)) := by
      unfold OwnM
      rw [List.map_append, nums_vals]
      exact h2
    obtain ⟨ao', cp', rfl⟩ := h2'.form
    exact ⟨ao', cp', w', h1, h2', h3, h5⟩
/-- .. with the word where the new row lies, for the walk. -/
theorem wpList_appX (e : TypeId) (i : TypeInfo) (z : Value) (m bytes : Nat) {ops : Array Oper} {rest : List Oper} {o : Oper} {a : Act} {Q : Exit → Act → World → Prop} (hgd : o.guard = none) (s x : Operand) (t : TypeId) (ho : o.op = .call { callee := .builtin .append, args := #[s, x], argTypes := #[t, t] })
    (ht : Tryz.prog.underlying t = some (.slice e)) (hi : Tryz.prog.info? e = some i) (hz : i.zero = some z) (hsize : i.size = m) (hby : i.bytes = bytes) (hzs : z.cells.size = m) (hm : 0 < m) (hb5 : bytes ≤ 1000)
    (w : World) (base n0 : Nat) (L : List Int) (v : Value) (hs : a.eval s = v) (hown : OwnM w base e m v n0 L) (B n : Nat) (F : Nat → Int) (u : Value) (hx : a.eval x = u) (h : Row w B m n F u) (hn : n0 + n ≤ 2097152) (hbase : base ≤ w.heap.size)
    (hK : ∀ ao cp w', OwnM w' base e m (.slice ao (n0 + n) cp) (n0 + n) (L ++ nums F (n * m)) → w.grownBy w' v.ownBlock → ((Value.slice ao (n0 + n) cp).ownBlock = v.ownBlock ∨ (Value.slice ao (n0 + n) cp).ownBlock = some w.heap.size) → wpList Tryz.prog ops Q rest (a.put o.dst (.slice ao (n0 + n) cp)) w') : wpList Tryz.prog ops Q (o :: rest) a w := by
  refine wpList_plain hgd fun K hK' => ?_
  obtain ⟨ao, cp, w', hr, h2, h3, h5⟩ := run_appX t o.type e i z m bytes ht hi hz hsize hby hzs hm hb5 w base n0 L v hown B n F u h hn hbase
  unfold Oper.wp execOp
  simp only [ho, resolve, invoke, builtin, Sem.run_bind, Sem.run_pure, Result.andThen_ok, List.map_toArray, List.map_cons, List.map_nil, hs, hx, hr]
  exact hK' _ _ (hK ao cp w' h2 h3 h5)
end Go.Proofs.YtdbcmckoiacemaaGreat

namespace Go.Proofs.YtdbcmckoiacemaaGreat
open Go.RowKit

theorem infoz_ItemW : (Tryz.prog.info? 97).map (fun i => (i.zero, i.size, i.bytes)) = some (some (.agg #[.int .i64 0, .int .i64 0, .int .i64 0]), 3, 24) := by kernel_rfl
theorem infoz_TxnW : (Tryz.prog.info? 94).map (fun i => (i.zero, i.size, i.bytes)) = some (some (.agg #[.int .i64 0, .int .i64 0, .int .i64 0, .int .i64 0, .int .i64 0, .slice none 0 0]), 6, 64) := by kernel_rfl
/-- What stands while workOn works: the world that came in, in its box; the work in block b; its transactions so far. -/
structure WrkE (w : World) (b B2 : Nat) (nw nx bd : Int) (vr vs vt : Value) (n : Nat) (F : Nat → Int) (S : Nat → Sto) (g : Nat) (P : Nat → Nat) (k : Nat) (T : Nat → Tx) (Y : Nat → Value) (v : Value) (x : World) : Prop where
  below : Below w.heap.size w x
  kb : Blk5w x b (.int .i64 nw) (.int .i64 nx) (.int .i64 bd) (.slice (some ⟨g, 0, none⟩) n n) v
  work : Work x w.heap.size n F S (some ⟨g, 0, none⟩) P
  hb : w.heap.size ≤ b ∧ b < B2 ∧ B2 ≤ x.heap.size
  txs : WrkT x B2 k T Y v
theorem WrkT.far {x : World} {B n : Nat} {T : Nat → Tx} {Y : Nat → Value} {v : Value} (h : WrkT x B n T Y v) {a : Addr} (ha : a.block < B) (u : Value) : WrkT (x.setCell a u) B n T Y v :=
  ⟨ownsRow_setCell_below h.own ha u, fun i hi => ⟨(h.items i hi).1.far (Or.inl ha) u, (h.items i hi).2.1, fun h0 k hk => by have := (h.items i hi).2.2 h0 k hk; simpa using this⟩⟩
theorem Blk5w.set4 {x : World} {b : Nat} {a0 a1 a2 a3 a4 : Value} (h : Blk5w x b a0 a1 a2 a3 a4) (u : Value) : Blk5w (x.setCell ⟨b, 4, none⟩ u) b a0 a1 a2 a3 u := by
  obtain ⟨⟨h0, h1, h2, h3, h4⟩, h5⟩ := h
  refine ⟨⟨?_, ?_, ?_, ?_, ?_⟩, fun j => ?_⟩
  · go_simp
  · go_simp
  · go_simp
  · go_simp
  · go_simp
  · rw [World.frozen?_setCell]; exact h5 j
/-- What stands in the loop: behind w1 lies the work, in block b. -/
structure WrkI (w1 : World) (nw nx bd : Int) (n : Nat) (g : Nat) (k : Nat) (T : Nat → Tx) (Y : Nat → Value) (v : Value) (x : World) : Prop where
  back : Below w1.heap.size w1 x
  kb : Blk5w x w1.heap.size (.int .i64 nw) (.int .i64 nx) (.int .i64 bd) (.slice (some ⟨g, 0, none⟩) n n) v
  txs : WrkT x (w1.heap.size + 1) k T Y v
theorem WrkI.later {w1 : World} {nw nx bd : Int} {n g k : Nat} {T : Nat → Tx} {Y : Nat → Value} {v : Value} {x x' : World} (h : WrkI w1 nw nx bd n g k T Y v x) (hb : Below x.heap.size x x') : WrkI w1 nw nx bd n g k T Y v x' := ⟨h.back.trans (hb.mono h.back.size), h.kb.later hb, h.txs.later hb⟩
set_option maxRecDepth 100000 in
set_option maxHeartbeats 8000000 in
theorem workOn_is (nw nx bd : Int) (nr : Nat) (F : Nat → Int) (n : Nat) (S : Nat → Sto) (V : Nat → Nat → Value) (vr vs : Value) (nt : Nat) (T : Nat → Tx) (X : Nat → Value) (vt : Value) (B : Nat) (w : World) (h : Grs w B nr F n S V vr vs) (hx : Txs w B nt T X vt) (hz : ∀ i, i < n → storeF (S i) = 0) (hn : n = nr) (hm : n ≤ 12) (hnt : nt ≤ 16) (hit : ∀ i, i < nt → 1 ≤ (T i).m ∧ (T i).m ≤ 12) :
    Calls Tryz.prog 27 #[.agg #[.int .i64 nw, .int .i64 nx, .int .i64 bd, vr, vs, vt]] w fun e w' => ∃ b B2 g P Y v, e = .returned (.pointer (some ⟨b, 0, none⟩)) ∧ WrkE w b B2 nw nx bd vr vs vt n F S g P nt T Y v w' := by
  obtain ⟨a0, c0, a1, c1, rfl, rfl⟩ := h.form
  obtain ⟨a2, c2, rfl⟩ := hx.form
  have H : Hid (Blk6 (w.alloc (.cells #[.int .i64 nw, .int .i64 nx, .int .i64 bd, .slice a0 nr c0, .slice a1 n c1, .slice a2 nt c2] 43)) w.heap.size (.int .i64 nw) (.int .i64 nx) (.int .i64 bd) (.slice a0 nr c0) (.slice a1 n c1) (.slice a2 nt c2) ∧ Below w.heap.size w (w.alloc (.cells #[.int .i64 nw, .int .i64 nx, .int .i64 bd, .slice a0 nr c0, .slice a1 n c1, .slice a2 nt c2] 43))) := ⟨Blk6.new w _ _ _ _ _ _ _, below_alloc _ _⟩
  have HG : Hid (Grs w B nr F n S V (.slice a0 nr c0) (.slice a1 n c1) ∧ Txs w B nt T X (.slice a2 nt c2)) := ⟨h, hx⟩
  have HZ : Hid ((∀ i, i < n → storeF (S i) = 0) ∧ n = nr) := ⟨hz, hn⟩
  have HIT : Hid (∀ i, i < nt → 1 ≤ (T i).m ∧ (T i).m ≤ 12) := hit
  clear h hx hz hn hit
  go_enter Tryz.func27, Tryz.ntmps27
  go_upto_region 1 with fail
  refine wp_region_held_drew (S := fun x : World => Blk6 x w.heap.size (.int .i64 nw) (.int .i64 nx) (.int .i64 bd) (.slice a0 nr c0) (.slice a1 n c1) (.slice a2 nt c2) ∧ Below w.heap.size w x) (by kernel_rfl) ⟨H.out.1, H.out.2.drew⟩ (fun hS => ?_)
  clear H
  refine tkH 0 ?_ hS (fun wx hx => ?_) ?_; rotate_left
  · obtain ⟨⟨⟨hx0, hx1, hx2, hx3, hx4, hx5⟩, _⟩, _⟩ := hx; go_simp; try with_reducible rfl
  refine tkH 1 ?_ hS (fun wx hx => ?_) ?_; rotate_left
  · obtain ⟨⟨⟨hx0, hx1, hx2, hx3, hx4, hx5⟩, _⟩, _⟩ := hx; go_simp; try with_reducible rfl
  refine tkH 2 ?_ hS (fun wx hx => ?_) ?_; rotate_left
  · obtain ⟨⟨⟨hx0, hx1, hx2, hx3, hx4, hx5⟩, _⟩, _⟩ := hx; go_simp; try with_reducible rfl
  refine tkH 3 ?_ hS (fun wx hx => ?_) ?_; rotate_left
  · obtain ⟨⟨⟨hx0, hx1, hx2, hx3, hx4, hx5⟩, _⟩, _⟩ := hx; go_simp; try with_reducible rfl
  refine tkH 4 ?_ hS (fun wx hx => ?_) ?_; rotate_left
  · obtain ⟨⟨⟨hx0, hx1, hx2, hx3, hx4, hx5⟩, _⟩, _⟩ := hx; go_simp; try with_reducible rfl
  refine tkH 5 ?_ hS (fun wx hx => ?_) ?_; rotate_left
  · obtain ⟨⟨⟨hx0, hx1, hx2, hx3, hx4, hx5⟩, _⟩, _⟩ := hx; go_simp; try with_reducible rfl
  refine rdH 6 (fun K hK => ?_)
  go_simp
  go_wp2_with fail
  refine (pointToAll_is nr F n S V _ _ B _ (HG.out.1.later hS.2) HZ.out.1 HZ.out.2 hm).mono ?_
  rintro e w1 ⟨g, P, rfl, hP, hT, q1⟩
  have hS1 : Blk6 w1 w.heap.size (.int .i64 nw) (.int .i64 nx) (.int .i64 bd) (.slice a0 nr c0) (.slice a1 n c1) (.slice a2 nt c2) ∧ Below w.heap.size w w1 := ⟨hS.1.later q1, hS.2.trans (q1.mono hS.2.size)⟩
  have HW1 : Hid (Work w1 w.heap.size n F S (some ⟨g, 0, none⟩) P ∧ Below w.heap.size w w1) := ⟨⟨hP, hT.mono hS.2.size⟩, hS.2.trans (q1.mono hS.2.size)⟩
  have HL1 : Hid (w.heap.size < w1.heap.size) := Nat.lt_of_lt_of_le hS.1.lt q1.size
  clear hS hP hT q1
  go_wp2_with fail
  refine hK.out _ _ hS1 (fun hS => ?_)
  clear hK K hS1
  refine tkH 7 ?_ hS (fun wx hx => ?_) ?_; rotate_left
  · obtain ⟨⟨⟨hx0, hx1, hx2, hx3, hx4, hx5⟩, _⟩, _⟩ := hx; go_simp; try with_reducible rfl
  refine rdH 8 (fun K hK => ?_)
  go_simp
  refine hK.out _ _ ⟨hS.1.alloc _, hS.2.alloc hS.2.size _⟩ (fun hS => ?_)
  clear hK K
  have E0 : Hid ((WrkI w1 nw nx bd n g 0 T (fun _ => .bool true) (.slice none 0 0)) (w1.alloc (.cells #[.int .i64 nw, .int .i64 nx, .int .i64 bd, .slice (some ⟨g, 0, none⟩) n n, .slice none 0 0] 121)) ∧ Blk6 (w1.alloc (.cells #[.int .i64 nw, .int .i64 nx, .int .i64 bd, .slice (some ⟨g, 0, none⟩) n n, .slice none 0 0] 121)) w.heap.size (.int .i64 nw) (.int .i64 nx) (.int .i64 bd) (.slice a0 nr c0) (.slice a1 n c1) (.slice a2 nt c2)) :=
    ⟨⟨below_alloc _ _, ⟨⟨World.cell?_alloc_mark w1 _ _ _ 0, World.cell?_alloc_mark w1 _ _ _ 1, World.cell?_alloc_mark w1 _ _ _ 2, World.cell?_alloc_mark w1 _ _ _ 3, World.cell?_alloc_mark w1 _ _ _ 4⟩, fun j => by simp⟩, ⟨World.ownsRow_nil _ _ _ _, fun i hi => absurd hi (Nat.not_lt_zero i)⟩⟩, hS.1⟩
  have hlw : w.heap.size < w1.heap.size := HL1.out
  refine tkH 9 ?_ hS (fun wx hx => ?_) ?_; rotate_left
  · obtain ⟨⟨⟨hx0, hx1, hx2, hx3, hx4, hx5⟩, _⟩, _⟩ := hx; go_simp; try with_reducible rfl
  clear hS HL1
  refine wpAnyH_done (by kernel_rfl) ?_ _
  go_simp
  obtain ⟨⟨p0, p1, p2, p3, p4, p5⟩, _⟩ := E0.out.2
  obtain ⟨i0, hi, iz0, iz1, iz2⟩ := info_parts infoz_ItemW
  obtain ⟨i1, hi1, jz0, jz1, jz2⟩ := info_parts infoz_TxnW
  go_wp2
  clear p0 p1 p2 p3 p4 p5
  go_loopw [18] (fun i wr => ∃ (k : Nat) (Y : Nat → Value) (v : Value), k ≤ nt ∧ i = .int .i64 k ∧ Hid (WrkI w1 nw nx bd n g k T Y v wr)) (fun i _ => nt - (intOf i).toNat)
  case atStart => exact ⟨0, _, _, Nat.zero_le _, rfl, E0.out.1⟩
  case round =>
    clear E0
    obtain ⟨k, Y, v, hk, rfl, HE⟩ := hrel
    by_cases hlt : k < nt
    case neg =>
      obtain rfl : k = nt := by omega
      go_wp2
      go_ret
      exact ⟨w1.heap.size, w1.heap.size + 1, g, P, Y, v, rfl, HW1.out.2.trans (HE.out.back.mono HW1.out.2.size), HE.out.kb, HW1.out.1.later HE.out.back, ⟨HW1.out.2.size, Nat.lt_succ_self _, HE.out.kb.lt⟩, HE.out.txs⟩
    have hmk := HIT.out k hlt
    obtain ⟨gx, ox, hax, _, hgx, ⟨x0, x1, x2, x3, x4, x5⟩, hrow, hcap⟩ := (HG.out.2.later (HW1.out.2.trans (HE.out.back.mono HW1.out.2.size))).at hlt
    subst hax
    obtain ⟨t, ht⟩ : ∃ t, T k = t := ⟨_, rfl⟩
    have HT : Hid (T k = t) := ht
    rw [ht] at x0 x1 x2 x3 x4 hrow hmk
    obtain ⟨y, hy⟩ : ∃ y, X k = y := ⟨_, rfl⟩
    rw [hy] at x5 hrow hcap
    clear ht hy
    obtain ⟨yo, yc, rfl⟩ := hrow.form
    have HR : Hid (Row wr B 3 t.m t.L (.slice yo t.m yc)) := hrow
    have hzb : w1.heap.size + 1 ≤ wr.heap.size := HE.out.kb.lt
    have HC0 : Hid (Blk6 (wr.alloc (.cells #[.int .i64 t.s, .int .i64 t.c, .int .i64 t.u, .int .i64 t.st, .int .i64 t.a, .slice yo t.m yc] 94)) wr.heap.size (.int .i64 t.s) (.int .i64 t.c) (.int .i64 t.u) (.int .i64 t.st) (.int .i64 t.a) (.slice yo t.m yc)) := Blk6.new wr _ _ _ _ _ _ _
    clear hrow hcap
    go_wp2_with (at_builtin; refine wpList_appX 97 i0 (.agg #[.int .i64 0, .int .i64 0, .int .i64 0]) 3 24 rfl _ _ 92 rfl Tryz.underlying92 hi iz0 iz1 iz2 rfl (by omega) (by omega) _ (w1.heap.size + 1) 0 [] (.slice none 0 0) rfl (OwnM.nil _ _ _ _) B t.m t.L (.slice yo t.m yc) rfl (HR.out.alloc _) (by omega) (by simp; omega) ?_; intro ao2 cp2 w2 O2 G2 B2; have KC := HC0.out.kept (G2.block _ (by simp) (fun e => by simp [Value.ownBlock] at e)); obtain ⟨⟨k0, k1, k2, k3, k4, k5⟩, f0, f1, f2, f3, f4, f5⟩ := KC)
    have GB : Below wr.heap.size wr w2 := (below_alloc wr _).trans ⟨G2.os, G2.tape, G2.output, by have := G2.size; simpa using this, fun i hi => G2.block i (by simp; omega) (fun e => by simp [Value.ownBlock] at e)⟩
    have KC2 := (HC0.out.kept (G2.block _ (by simp) (fun e => by simp [Value.ownBlock] at e))).set5 (.slice ao2 t.m cp2)
    rw [Nat.zero_add, List.nil_append] at O2
    rw [Nat.zero_add] at B2
    have hob : ∀ q, (Value.slice ao2 t.m cp2).ownBlock = some q → q = wr.heap.size + 1 := fun q hq => by
      rcases B2 with e | e
      · rw [hq] at e; simp [Value.ownBlock] at e
      · rw [hq] at e; simpa using e
    obtain ⟨w3, hw3⟩ : ∃ w3, w3 = w2.setCell ⟨wr.heap.size, 5, none⟩ (.slice ao2 t.m cp2) := ⟨_, rfl⟩
    rw [← hw3] at KC2
    rw [← hw3]
    have hcb : ∀ q, (Value.slice ao2 t.m cp2).ownBlock = some q → q ≠ wr.heap.size := fun q hq => by have := hob q hq; omega
    have B3 : Below wr.heap.size wr w3 := by rw [hw3]; exact GB.setCell (Nat.le_refl _) _
    have HE3 : Hid (WrkI w1 nw nx bd n g k T Y v w3) := HE.out.later B3
    have O3 : OwnM w3 (w1.heap.size + 1) 97 3 (.slice ao2 t.m cp2) t.m (nums t.L (t.m * 3)) := by rw [hw3]; exact O2.set hcb 5 _
    have hsz3 : wr.heap.size + 1 < w3.heap.size := by
      have hb3 := O3.block
      obtain ⟨q, hq⟩ : ∃ q, (Value.slice ao2 t.m cp2).ownBlock = some q := by
        rcases O3.2 with ⟨_, e⟩ | ⟨g', cap', cur', e, _⟩
        · omega
        · rw [e]; exact ⟨g', rfl⟩
      have := hob q hq
      have := (hb3 q hq).2
      omega
    have HIT3 : Hid (Row w3 (w1.heap.size + 1) 3 t.m t.L (.slice ao2 t.m cp2) ∧ CapOk (.slice ao2 t.m cp2) ∧ ∀ q, (Value.slice ao2 t.m cp2).ownBlock = some q → v.ownBlock ≠ some q ∧ q < w3.heap.size) := by
      refine ⟨?_, fun _ _ _ e => by cases e; exact O3.cap, fun q hq => ⟨fun e => by have := (HE.out.txs.own.lt q e).2; have := hob q hq; omega, (O3.block q hq).2⟩⟩
      have := (O3.own (nums_length _ _)).row.1
      obtain ⟨ao, cp, e, hr⟩ := this
      refine ⟨ao, cp, e, fun h0 => ?_⟩
      obtain ⟨g', o', e1, e2, e3, e4⟩ := hr h0
      exact ⟨g', o', e1, e2, e3, fun p hp => by rw [e4 p hp]; simp [nums, hp]⟩
    have HVC : Hid (∀ q, v.ownBlock = some q → q < wr.heap.size ∧ w1.heap.size + 1 ≤ q) := fun q hq => ⟨(HE.out.txs.own.lt q hq).2, (HE.out.txs.own.lt q hq).1⟩
    have HKC : Hid (Blk6 w3 wr.heap.size (.int .i64 t.s) (.int .i64 t.c) (.int .i64 t.u) (.int .i64 t.st) (.int .i64 t.a) (.slice ao2 t.m cp2)) := KC2
    clear KC2 O2 G2 B2 GB hob O3 hcb B3 HE k0 k1 k2 k3 k4 k5 f0 f1 f2 f3 f4 f5 hw3 HC0 HR x0 x1 x2 x3 x4 x5
    have BX : Hid (Below w3.heap.size w3 (w3.drew.alloc (.cells #[.int .i64 t.s, .int .i64 t.c, .int .i64 t.u, .int .i64 t.st, .int .i64 t.a, .slice ao2 t.m cp2] 94))) := (Below.drew (Below.refl _ _)).trans ((below_alloc _ _).mono (Nat.le_refl _))
    obtain ⟨g4, cap4, w4, hrun, hown4, hg4, hor, hlt4⟩ := run_append_lies (P := Tryz.prog) (w3.drew.alloc (.cells #[.int .i64 t.s, .int .i64 t.c, .int .i64 t.u, .int .i64 t.st, .int .i64 t.a, .slice ao2 t.m cp2] 94)) 41 41 (w1.heap.size + 1) 94 i1 (.agg #[.int .i64 0, .int .i64 0, .int .i64 0, .int .i64 0, .int .i64 0, .slice none 0 0]) 6 64 Tryz.underlying41 hi1 jz0 jz1 jz2 rfl (by omega) v k (tvals T Y k) (HE3.out.txs.later BX.out).own ⟨w3.heap.size, 0, none⟩ 1 1 [.int .i64 t.s, .int .i64 t.c, .int .i64 t.u, .int .i64 t.st, .int .i64 t.a, .slice ao2 t.m cp2] rfl (fun j u hj => by rw [Addr.add_lit, Nat.zero_add, World.cell?_alloc_at (w := w3.drew) _ _ w3.heap.size j rfl]; simpa using hj) (by intro u hu; simp only [List.mem_cons, List.not_mem_nil, or_false] at hu; rcases hu with rfl | rfl | rfl | rfl | rfl | rfl <;> rfl) (by omega) (by unfold maxLen; omega) (by omega) (by simp; omega) (w3.heap.size + 1) (by simp)
    have HRUN : Hid (∀ ty, (Builtin.append_ #[41, 41] ty #[v, .slice (some ⟨w3.heap.size, 0, none⟩) 1 1]).run Tryz.prog (w3.drew.alloc (.cells #[.int .i64 t.s, .int .i64 t.c, .int .i64 t.u, .int .i64 t.st, .int .i64 t.a, .slice ao2 t.m cp2] 94)) = .ok (.slice (some ⟨g4, 0, none⟩) (k + 1) cap4) w4) := fun ty => hrun
    have HW4 : Hid (WrkT w4 (w1.heap.size + 1) (k + 1) T (fun i => if i = k then .slice ao2 t.m cp2 else Y i) (.slice (some ⟨g4, 0, none⟩) (k + 1) cap4)) := by
      refine (HE3.out.txs.later BX.out).put ⟨by rw [HT.out]; exact HIT3.out.1.later BX.out, HIT3.out.2.1⟩ (fun _ q hq => ⟨(HIT3.out.2.2 q hq).1, Nat.lt_of_lt_of_le (HIT3.out.2.2 q hq).2 BX.out.size⟩) (by rw [HT.out]; exact hown4) hg4 (fun q hq => ?_)
      have e : g4 = q := by simpa [Value.ownBlock] using hq
      rcases hor with e1 | e1
      · exact Or.inl (by rw [e1, e])
      · exact Or.inr (by rw [← e, e1]; simp)
    have HK4 : Hid (Blk5w w4 w1.heap.size (.int .i64 nw) (.int .i64 nx) (.int .i64 bd) (.slice (some ⟨g, 0, none⟩) n n) v) := (HE3.out.kb.later BX.out).kept (hg4.block _ (by have := BX.out.size; omega) (fun e => by have := (HVC.out _ e.symm).2; omega))
    have HB4 : Hid (Below w1.heap.size w1 w4) := (HE3.out.back.trans (BX.out.mono HE3.out.back.size)).grown hg4 (by have := BX.out.size; omega) (fun r e => by have := (HVC.out r e).2; omega)
    have HKX : Hid (Blk6 (w3.drew.alloc (.cells #[.int .i64 t.s, .int .i64 t.c, .int .i64 t.u, .int .i64 t.st, .int .i64 t.a, .slice ao2 t.m cp2] 94)) wr.heap.size (.int .i64 t.s) (.int .i64 t.c) (.int .i64 t.u) (.int .i64 t.st) (.int .i64 t.a) (.slice ao2 t.m cp2)) := HKC.out.later BX.out
    have HKC4 : Hid (Blk6 w4 wr.heap.size (.int .i64 t.s) (.int .i64 t.c) (.int .i64 t.u) (.int .i64 t.st) (.int .i64 t.a) (.slice ao2 t.m cp2)) := HKX.out.kept (hg4.block _ (by have := BX.out.size; omega) (fun e => by have := (HVC.out _ e.symm).1; omega))
    have vform : ∃ va vc, v = .slice va k vc := by
      rcases HE3.out.txs.own.2 with ⟨e, e0⟩ | ⟨g', cap', cur', e, _⟩
      · exact ⟨none, 0, by rw [e, e0]⟩
      · exact ⟨_, _, e⟩
    obtain ⟨va, vc, rfl⟩ := vform
    obtain ⟨⟨b0, b1, b2, b3, b4⟩, _⟩ := HE3.out.kb
    have hl13 : w1.heap.size < w3.heap.size := by omega
    have hS0 : (fun X : World => Blk6 X wr.heap.size (.int .i64 t.s) (.int .i64 t.c) (.int .i64 t.u) (.int .i64 t.st) (.int .i64 t.a) (.slice ao2 t.m cp2)) w3.drew := HKC.out
    clear hown4 hg4 hor hlt4 hrun BX HIT3 HE3 HKC
    go_upto_region 6 with fail
    refine wp_region_held_drew (S := (fun X : World => Blk6 X wr.heap.size (.int .i64 t.s) (.int .i64 t.c) (.int .i64 t.u) (.int .i64 t.st) (.int .i64 t.a) (.slice ao2 t.m cp2))) (by kernel_rfl) hS0 (fun hS => ?_)
    clear hS0
    refine tkH 0 ?_ hS (fun wx hx => ?_) ?_; rotate_left
    · obtain ⟨⟨hx0, hx1, hx2, hx3, hx4, hx5⟩, _⟩ := hx; go_simp; try with_reducible rfl
    refine tkH 1 ?_ hS (fun wx hx => ?_) ?_; rotate_left
    · obtain ⟨⟨hx0, hx1, hx2, hx3, hx4, hx5⟩, _⟩ := hx; go_simp; try with_reducible rfl
    refine tkH 2 ?_ hS (fun wx hx => ?_) ?_; rotate_left
    · obtain ⟨⟨hx0, hx1, hx2, hx3, hx4, hx5⟩, _⟩ := hx; go_simp; try with_reducible rfl
    refine tkH 3 ?_ hS (fun wx hx => ?_) ?_; rotate_left
    · obtain ⟨⟨hx0, hx1, hx2, hx3, hx4, hx5⟩, _⟩ := hx; go_simp; try with_reducible rfl
    refine tkH 5 ?_ hS (fun wx hx => ?_) ?_; rotate_left
    · obtain ⟨⟨hx0, hx1, hx2, hx3, hx4, hx5⟩, _⟩ := hx; go_simp; try with_reducible rfl
    refine wpAnyH_ready (rs := [4, 6]) (by kernel_rfl) (by simp) ?_
    refine AllReadyH.cons rfl (fun K hK => ?_) (AllReadyH.cons rfl (fun K hK => ?_) AllReadyH.nil)
    focus
      go_simp
      refine hK.out _ _ hS (fun hS => ?_)
      clear hK K
      refine rdH 6 (fun K hK => ?_)
      go_simp
      refine hK.out _ _ HKX.out (fun hS => ?_)
    rotate_left
    focus
      go_simp
      refine hK.out _ _ HKX.out (fun hS => ?_)
      clear hK K
      refine rdH 4 (fun K hK => ?_)
      go_simp
      refine hK.out _ _ hS (fun hS => ?_)
    rotate_left
    all_goals
      clear hK K
      clear b0 b1 b2 b3 b4
      refine rdH 7 (fun K hK => ?_)
      refine step_appInM rfl _ _ 41 41 rfl _ _ (by simp [Act.eval]) (by simp [Act.eval]) (HRUN.out _) ?_
      refine hK.out _ _ HKC4.out (fun hS => ?_)
      clear hK K
      refine tkH 8 ?_ hS (fun wx hx => ?_) ?_; rotate_left
      · obtain ⟨⟨hx0, hx1, hx2, hx3, hx4, hx5⟩, _⟩ := hx; go_simp; try with_reducible rfl
      refine tkH 9 ?_ hS (fun wx hx => ?_) ?_; rotate_left
      · obtain ⟨⟨hx0, hx1, hx2, hx3, hx4, hx5⟩, _⟩ := hx; go_simp; try with_reducible rfl
      refine rdH 10 (fun K hK => ?_)
      obtain ⟨⟨z0, z1, z2, z3, z4⟩, zf⟩ := HK4.out
      have zf4 := zf 4
      go_simp
      refine hK.out _ _ (hS.kept (Below.heap_setCell _ ⟨w1.heap.size, 4, none⟩ _ _ (by simp; omega))) (fun hS => ?_)
      clear hK K z0 z1 z2 z3 z4 zf zf4
      refine wpAnyH_done (by kernel_rfl) ?_ _
      go_simp
      go_wp2
      go_roundw
      case rel => exact ⟨k + 1, _, _, by omega, by go_num, HB4.out.setCell (Nat.le_refl _) _, HK4.out.set4 _, HW4.out.far (by simp) _⟩
      case measure => simp [intOf]; omega
end Go.Proofs.YtdbcmckoiacemaaGreat

