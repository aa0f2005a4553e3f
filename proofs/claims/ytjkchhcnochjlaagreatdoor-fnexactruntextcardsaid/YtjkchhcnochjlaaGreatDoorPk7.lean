/-
  Own text, merged of WldJ, TxnG, TxnH, WldL, GrpF, GrpG, GrpL, WldM, WldN, RunC, RunD.
-/
import Derived.Test.YtjkchhcnochjlaaGreatDoorPk6
namespace Go.Proofs.YtjkchhcnochjlaaGreatDoor
open Go.RowKit

theorem l9Time_at (now : Int) (r : Bool) (hr : decide (0 ≤ now ∧ now ≤ 100000) = r) (w : World) :
    Calls Tryz.prog 46 #[.int .i64 now] w fun e w' => e = .returned (.bool r) ∧ w' = w := by
  go_enter Tryz.func46, Tryz.ntmps46
  go_wp2_with fail
  refine (inT_is _ _ _ _ hr _).mono ?_
  rintro e w1 ⟨rfl, rfl⟩
  go_wp2
  go_ret
  exact ⟨rfl, rfl⟩
set_option maxRecDepth 100000 in
set_option maxHeartbeats 8000000 in
theorem l10Fault_any (b : Nat) (nw nx bd : Int) (nr : Nat) (F : Nat → Int) (n : Nat) (S : Nat → Sto) (V : Nat → Nat → Value) (vr vs : Value) (nt : Nat) (T : Nat → Tx) (X : Nat → Value) (vt : Value) (w : World) (h : LiesD w b nw nx bd nr F n S V vr vs nt T X vt) (hr : nr ≤ 9223372036854775807) (hn : n ≤ 9223372036854775807) (ht : nt ≤ 9223372036854775807) (hm : ∀ i, i < nt → (T i).m ≤ 9223372036854775807) :
    Calls Tryz.prog 25 #[.pointer (some ⟨b, 0, none⟩)] w fun e w' => e = .returned (.int .i64 (worldF nw nx bd nr F n S nt T)) ∧ Below w.heap.size w w' := by
  obtain ⟨a0, c0, a1, c1, rfl, rfl⟩ := h.2.1.form
  obtain ⟨a2, c2, rfl⟩ := h.2.2.form
  have H : Hid (LiesD w b nw nx bd nr F n S V (.slice a0 nr c0) (.slice a1 n c1) nt T X (.slice a2 nt c2)) := h
  have HM : Hid (∀ i, i < nt → (T i).m ≤ 9223372036854775807) := hm
  obtain ⟨⟨⟨p0, p1, p2, p3, p4, p5⟩, _⟩, _⟩ := h
  clear hm
  by_cases h0 : 0 ≤ nw ∧ nw ≤ 100000
  case neg =>
    have D0 : Hid (decide (0 ≤ nw ∧ nw ≤ 100000) = false) := decide_eq_false h0
    have E : Hid (worldF nw nx bd nr F n S nt T = 3) := worldF_now h0
    clear h0
    go_enter Tryz.func25, Tryz.ntmps25
    go_wp2_with fail
    refine (l9Time_at nw false D0.out _).mono ?_
    rintro e w1 ⟨rfl, rfl⟩
    go_wp2
    go_ret
    exact ⟨by rw [E.out]; rfl, Below.refl _ _⟩
  have D0 : Hid (decide (0 ≤ nw ∧ nw ≤ 100000) = true) := decide_eq_true h0
  have H0 : Hid (0 ≤ nw ∧ nw ≤ 100000) := h0
  clear h0
  obtain ⟨f, hf⟩ : ∃ f, oFault nx bd = f := ⟨_, rfl⟩
  have HF : Hid (oFault nx bd = f) := hf
  clear hf
  go_enter Tryz.func25, Tryz.ntmps25
  go_wp2_with fail
  refine (l9Time_at nw true D0.out _).mono ?_
  rintro e w1 ⟨rfl, rfl⟩
  go_wp2_with fail
  refine (l5Fault_at nx bd b _ p1 p2).mono ?_
  rw [HF.out]
  rintro e w2 ⟨rfl, q, rfl⟩
  have B2 : Hid (Below w1.heap.size w1 (w1.drewN q)) := below_dt (Below.refl _ _) _
  by_cases hz : f = 0
  case neg =>
    have d : (f == 0) = false := beq_eq_false_iff_ne.2 hz
    have d' : (f != 0) = true := bne_iff_ne.2 hz
    have E : Hid (worldF nw nx bd nr F n S nt T = f) := (worldF_oracle H0.out (by rw [HF.out]; exact hz)).trans HF.out
    clear hz HF
    go_wp2
    go_ret
    exact ⟨by rw [E.out]; rfl, B2.out⟩
  subst hz
  have L2 : Hid (LiesD (w1.drewN q) b nw nx bd nr F n S V (.slice a0 nr c0) (.slice a1 n c1) nt T X (.slice a2 nt c2)) := H.out.later B2.out
  generalize w1.drewN q = w2 at B2 L2 ⊢
  clear p0 p1 p2 p3 p4 p5 D0
  obtain ⟨⟨⟨p0, p1, p2, p3, p4, p5⟩, _⟩, _⟩ := L2.out
  obtain ⟨f, hf⟩ : ∃ f, groupsF nr F n S = f := ⟨_, rfl⟩
  have HG : Hid (groupsF nr F n S = f) := hf
  clear hf
  go_wp2_with fail
  refine (l7Fault_at nr F n S V _ _ b _ L2.out.groups hr hn).mono ?_
  rw [HG.out]
  rintro e w3 ⟨rfl, q3⟩
  have B3 : Hid (Below w1.heap.size w1 w3) := B2.out.trans (q3.mono B2.out.size)
  clear q3 L2 B2 p0 p1 p2 p3 p4 p5
  obtain ⟨⟨⟨p0, p1, p2, p3, p4, p5⟩, _⟩, _⟩ := H.out.later B3.out
  by_cases hz : f = 0
  case neg =>
    have d : (f == 0) = false := beq_eq_false_iff_ne.2 hz
    have d' : (f != 0) = true := bne_iff_ne.2 hz
    have E : Hid (worldF nw nx bd nr F n S nt T = f) := (worldF_groups H0.out HF.out (by rw [HG.out]; exact hz)).trans HG.out
    clear hz HF HG
    go_wp2
    go_ret
    exact ⟨by rw [E.out]; rfl, B3.out⟩
  subst hz
  by_cases h16 : 16 < nt
  · have d : decide ((16 : Int) < (nt : Int)) = true := decide_eq_true (by omega)
    have E : Hid (worldF nw nx bd nr F n S nt T = 2) := worldF_many H0.out HF.out HG.out h16
    clear h16 HF HG
    go_wp2
    go_ret
    exact ⟨by rw [E.out]; rfl, B3.out⟩
  have d : decide ((16 : Int) < (nt : Int)) = false := decide_eq_false (by omega)
  have EW : Hid (worldF nw nx bd nr F n S nt T = scan (placeF nx T) nt) := worldF_txns H0.out HF.out HG.out h16
  have hn16 : nt ≤ 16 := by omega
  clear h16 HF HG H0
  go_wp2_with fail
  clear p0 p1 p2 p3 p4 p5
  go_loopw [5] (fun i wr => ∃ k : Nat, k ≤ nt ∧ i = .int .i64 k ∧ Hid (scan (placeF nx T) k = 0) ∧ Hid (Below w1.heap.size w1 wr)) (fun i _ => nt - (intOf i).toNat)
  case atStart => exact ⟨0, Nat.zero_le _, rfl, rfl, B3⟩
  case round =>
    obtain ⟨k, hk, rfl, HS, HB⟩ := hrel
    have LR : Hid (LiesD wr b nw nx bd nr F n S V (.slice a0 nr c0) (.slice a1 n c1) nt T X (.slice a2 nt c2)) := H.out.later HB.out
    obtain ⟨⟨⟨p0, p1, p2, p3, p4, p5⟩, _⟩, _⟩ := LR.out
    by_cases hlt : k < nt
    case neg =>
      obtain rfl : k = nt := by omega
      have E : Hid (worldF nw nx bd nr F n S k T = 0) := EW.out.trans HS.out
      go_wp2
      go_ret
      exact ⟨by rw [E.out]; rfl, HB.out⟩
    obtain ⟨g, o, rfl, hg, LX⟩ := LR.out.2.2.lies hlt
    have LX : Hid (LiesX wr g (o + k * 6) (T k).s (T k).c (T k).u (T k).st (T k).a (T k).m (T k).L (X k)) := LX
    obtain ⟨f, hf⟩ : ∃ f, txF (T k) = f := ⟨_, rfl⟩
    have HF : Hid (txF (T k) = f) := hf
    have HF' : Hid (txnF (T k).s (T k).c (T k).u (T k).st (T k).a (T k).m (T k).L = f) := hf
    clear hf
    go_wp2_with fail
    refine (l8Fault_at g (o + k * 6) _ _ _ _ _ _ _ _ _ LX.out (HM.out k hlt)).mono ?_
    rw [HF'.out]
    rintro e w4 ⟨rfl, q4⟩
    have B4 : Hid (Below w1.heap.size w1 w4) := HB.out.trans (q4.mono HB.out.size)
    have LX4 : Hid (LiesX w4 g (o + k * 6) (T k).s (T k).c (T k).u (T k).st (T k).a (T k).m (T k).L (X k)) := LX.out.later q4
    clear q4 HB LR LX p0 p1 p2 p3 p4 p5 HF'
    by_cases hz : f = 0
    case neg =>
      have d : (f == 0) = false := beq_eq_false_iff_ne.2 hz
      have d' : (f != 0) = true := bne_iff_ne.2 hz
      have E : Hid (worldF nw nx bd nr F n S nt T = f) := by
        have h1 : placeF nx T k = f := (placeF_txn (by rw [HF.out]; exact hz)).trans HF.out
        exact EW.out.trans ((scan_stop HS.out (by rw [h1]; exact hz) hlt).trans h1)
      clear hz HF HS EW
      go_wp2
      go_ret
      exact ⟨by rw [E.out]; rfl, B4.out⟩
    subst hz
    obtain ⟨⟨⟨p0, p1, p2, p3, p4, p5⟩, _⟩, _⟩ := H.out.later B4.out
    obtain ⟨⟨x0, x1, _, _, _, _⟩, _⟩ := LX4.out
    obtain ⟨s, hs⟩ : ∃ x, (T k).s = x := ⟨_, rfl⟩
    obtain ⟨c, hc⟩ : ∃ x, (T k).c = x := ⟨_, rfl⟩
    rw [hs] at x0
    rw [hc] at x1
    have HSC : Hid ((T k).s = s ∧ (T k).c = c) := ⟨hs, hc⟩
    clear hs hc
    by_cases h1 : nx ≤ s
    · have d1 : decide (nx ≤ s) = true := decide_eq_true h1
      have E : Hid (worldF nw nx bd nr F n S nt T = 3) := by
        have e1 : placeF nx T k = 3 := placeF_next HF.out (Or.inl (by rw [HSC.out.1]; exact h1))
        exact EW.out.trans ((scan_stop HS.out (by rw [e1]; decide) hlt).trans e1)
      clear h1 HF HS EW
      go_wp2_with fail
      go_quiet (fail)
      go_wp2
      go_ret
      exact ⟨by rw [E.out]; rfl, below_dt B4.out _⟩
    have d1 : decide (nx ≤ s) = false := decide_eq_false h1
    by_cases h2 : nx ≤ c
    · have d2 : decide (nx ≤ c) = true := decide_eq_true h2
      have E : Hid (worldF nw nx bd nr F n S nt T = 3) := by
        have e1 : placeF nx T k = 3 := placeF_next HF.out (Or.inr (by rw [HSC.out.2]; exact h2))
        exact EW.out.trans ((scan_stop HS.out (by rw [e1]; decide) hlt).trans e1)
      clear h1 h2 HF HS EW
      go_wp2_with fail
      go_quiet (fail)
      go_wp2
      go_ret
      exact ⟨by rw [E.out]; rfl, below_dt B4.out _⟩
    have d2 : decide (nx ≤ c) = false := decide_eq_false h2
    have HX : Hid (¬ (nx ≤ (T k).s ∨ nx ≤ (T k).c)) := by
      unfold Hid
      rw [HSC.out.1, HSC.out.2]
      omega
    clear h1 h2
    go_wp2_with fail
    go_quiet (fail)
    go_wp2_with fail
    clear p0 p1 p2 p3 p4 p5 x0 x1 d1 d2
    go_loopw [8] (fun i wx => ∃ m : Nat, m ≤ k ∧ i = .int .i64 m ∧ Hid (¬ takenT T k m) ∧ Hid (Below w1.heap.size w1 wx)) (fun i _ => k - (intOf i).toNat)
    case atStart => exact ⟨0, Nat.zero_le _, rfl, takenT_none T k, below_dt B4.out _⟩
    case round =>
      obtain ⟨m, hmk, rfl, HT, HB⟩ := hrel
      obtain ⟨⟨⟨p0, p1, p2, p3, p4, p5⟩, _⟩, _, hx⟩ := H.out.later HB.out
      by_cases hlm : m < k
      case neg =>
        obtain rfl : m = k := by omega
        have HS1 : Hid (scan (placeF nx T) (m + 1) = 0) := scan_go HS.out (placeF_ok HF.out HX.out HT.out)
        clear HS HF HX HT HSC hx
        go_wp2
        go_roundw
        case rel => exact ⟨m + 1, by omega, by go_num, HS1, HB⟩
        case measure => simp [intOf]; omega
      obtain ⟨g1, o1, e1, _, _, ⟨x0, _⟩, _⟩ := hx.at hlt
      simp only [Option.some.injEq, Addr.mk.injEq, and_true] at e1
      obtain ⟨rfl, rfl⟩ := e1
      obtain ⟨g1, o1, e1, _, _, ⟨y0, _⟩, _⟩ := hx.at (i := m) (by omega)
      simp only [Option.some.injEq, Addr.mk.injEq, and_true] at e1
      obtain ⟨rfl, rfl⟩ := e1
      rw [HSC.out.1] at x0
      obtain ⟨r, hr'⟩ : ∃ x, (T m).s = x := ⟨_, rfl⟩
      rw [hr'] at y0
      have HR : Hid ((T m).s = r) := hr'
      clear hr' hx
      by_cases he : r = s
      · have E : Hid (worldF nw nx bd nr F n S nt T = 6) := by
          have e1 : placeF nx T k = 6 := placeF_taken HF.out HX.out ⟨m, hlm, by rw [HR.out, HSC.out.1]; exact he⟩
          exact EW.out.trans ((scan_stop HS.out (by rw [e1]; decide) hlt).trans e1)
        have d1 : (r == s) = true := beq_iff_eq.2 he
        clear he HF HS EW HT HX HR
        go_wp2_with fail
        go_quiet (fail)
        go_wp2
        go_ret
        exact ⟨by rw [E.out]; rfl, below_dt HB.out _⟩
      have d1 : (r == s) = false := beq_eq_false_iff_ne.2 he
      have HT1 : Hid (¬ takenT T k (m + 1)) := takenT_go HT.out (by rw [HR.out, HSC.out.1]; exact he)
      clear he HT HR
      go_wp2_with fail
      go_quiet (fail)
      go_wp2
      go_roundw
      case rel => exact ⟨m + 1, by omega, by go_num, HT1, below_dt HB.out _⟩
      case measure => simp [intOf]; omega
end Go.Proofs.YtjkchhcnochjlaaGreatDoor

namespace Go.Proofs.YtjkchhcnochjlaaGreatDoor
open Go.RowKit

/-- The type that stands for a state. -/
def StT (st : Int) (t : TypeId) : Prop := (st = 1 ∧ t = 270) ∨ (st = 2 ∧ t = 271) ∨ (st = 3 ∧ t = 272) ∨ (st = 4 ∧ t = 273) ∨ (st = 5 ∧ t = 293) ∨ (st = 6 ∧ t = 294) ∨ (st = 7 ∧ t = 295)
theorem StT.get {st : Int} (h : 1 ≤ st ∧ st ≤ 7) : ∃ t, StT st t := by
  have h7 : st = 1 ∨ st = 2 ∨ st = 3 ∨ st = 4 ∨ st = 5 ∨ st = 6 ∨ st = 7 := by omega
  unfold StT
  rcases h7 with h | h | h | h | h | h | h
  · exact ⟨_, Or.inl ⟨h, rfl⟩⟩
  · exact ⟨_, Or.inr (Or.inl ⟨h, rfl⟩)⟩
  · exact ⟨_, Or.inr (Or.inr (Or.inl ⟨h, rfl⟩))⟩
  · exact ⟨_, Or.inr (Or.inr (Or.inr (Or.inl ⟨h, rfl⟩)))⟩
  · exact ⟨_, Or.inr (Or.inr (Or.inr (Or.inr (Or.inl ⟨h, rfl⟩))))⟩
  · exact ⟨_, Or.inr (Or.inr (Or.inr (Or.inr (Or.inr (Or.inl ⟨h, rfl⟩)))))⟩
  · exact ⟨_, Or.inr (Or.inr (Or.inr (Or.inr (Or.inr (Or.inr ⟨h, rfl⟩)))))⟩
set_option maxHeartbeats 1000000 in
theorem stateOf_is (s c u st a : Int) (ao : Option Addr) (n cp : Nat) (t : TypeId) (ht : StT st t) (_ : n ≤ 12) (w : World) :
    Calls Tryz.prog 172 #[.agg #[.int .i64 s, .int .i64 c, .int .i64 u, .int .i64 st, .int .i64 a, .slice ao n cp]] w fun e w' => e = .returned (.iface t (.agg #[.int .i64 n, .int .i64 a])) ∧ Below w.heap.size w w' := by
  rcases ht with ⟨rfl, rfl⟩ | ⟨rfl, rfl⟩ | ⟨rfl, rfl⟩ | ⟨rfl, rfl⟩ | ⟨rfl, rfl⟩ | ⟨rfl, rfl⟩ | ⟨rfl, rfl⟩
  all_goals
    go_enter Tryz.func172, Tryz.ntmps172
    go_wp2
    go_ret
    exact ⟨rfl, (below_alloc _ _).alloc (by simp) _⟩
theorem as_first_first (v : Value) (w : World) : (Instr.typeAssert (.iface 270 v) 265 270 true).run Tryz.prog w = .ok (.tuple #[v, .bool true]) w := by kernel_rfl
theorem as_first_second (v : Value) (w : World) : (Instr.typeAssert (.iface 270 v) 265 271 true).run Tryz.prog w = .ok (.tuple #[.agg #[.int .i64 0, .int .i64 0], .bool false]) w := by kernel_rfl
theorem as_first_rest (v : Value) (w : World) : (Instr.typeAssert (.iface 270 v) 265 272 true).run Tryz.prog w = .ok (.tuple #[.agg #[.int .i64 0, .int .i64 0], .bool false]) w := by kernel_rfl
theorem as_first_done (v : Value) (w : World) : (Instr.typeAssert (.iface 270 v) 265 273 true).run Tryz.prog w = .ok (.tuple #[.agg #[.int .i64 0, .int .i64 0], .bool false]) w := by kernel_rfl
theorem as_second_first (v : Value) (w : World) : (Instr.typeAssert (.iface 271 v) 265 270 true).run Tryz.prog w = .ok (.tuple #[.agg #[.int .i64 0, .int .i64 0], .bool false]) w := by kernel_rfl
theorem as_second_second (v : Value) (w : World) : (Instr.typeAssert (.iface 271 v) 265 271 true).run Tryz.prog w = .ok (.tuple #[v, .bool true]) w := by kernel_rfl
theorem as_second_rest (v : Value) (w : World) : (Instr.typeAssert (.iface 271 v) 265 272 true).run Tryz.prog w = .ok (.tuple #[.agg #[.int .i64 0, .int .i64 0], .bool false]) w := by kernel_rfl
theorem as_second_done (v : Value) (w : World) : (Instr.typeAssert (.iface 271 v) 265 273 true).run Tryz.prog w = .ok (.tuple #[.agg #[.int .i64 0, .int .i64 0], .bool false]) w := by kernel_rfl
theorem as_rest_first (v : Value) (w : World) : (Instr.typeAssert (.iface 272 v) 265 270 true).run Tryz.prog w = .ok (.tuple #[.agg #[.int .i64 0, .int .i64 0], .bool false]) w := by kernel_rfl
theorem as_rest_second (v : Value) (w : World) : (Instr.typeAssert (.iface 272 v) 265 271 true).run Tryz.prog w = .ok (.tuple #[.agg #[.int .i64 0, .int .i64 0], .bool false]) w := by kernel_rfl
theorem as_rest_rest (v : Value) (w : World) : (Instr.typeAssert (.iface 272 v) 265 272 true).run Tryz.prog w = .ok (.tuple #[v, .bool true]) w := by kernel_rfl
theorem as_rest_done (v : Value) (w : World) : (Instr.typeAssert (.iface 272 v) 265 273 true).run Tryz.prog w = .ok (.tuple #[.agg #[.int .i64 0, .int .i64 0], .bool false]) w := by kernel_rfl
theorem as_done_first (v : Value) (w : World) : (Instr.typeAssert (.iface 273 v) 265 270 true).run Tryz.prog w = .ok (.tuple #[.agg #[.int .i64 0, .int .i64 0], .bool false]) w := by kernel_rfl
theorem as_done_second (v : Value) (w : World) : (Instr.typeAssert (.iface 273 v) 265 271 true).run Tryz.prog w = .ok (.tuple #[.agg #[.int .i64 0, .int .i64 0], .bool false]) w := by kernel_rfl
theorem as_done_rest (v : Value) (w : World) : (Instr.typeAssert (.iface 273 v) 265 272 true).run Tryz.prog w = .ok (.tuple #[.agg #[.int .i64 0, .int .i64 0], .bool false]) w := by kernel_rfl
theorem as_done_done (v : Value) (w : World) : (Instr.typeAssert (.iface 273 v) 265 273 true).run Tryz.prog w = .ok (.tuple #[v, .bool true]) w := by kernel_rfl
theorem as_undo_first (v : Value) (w : World) : (Instr.typeAssert (.iface 293 v) 265 270 true).run Tryz.prog w = .ok (.tuple #[.agg #[.int .i64 0, .int .i64 0], .bool false]) w := by kernel_rfl
theorem as_undo_second (v : Value) (w : World) : (Instr.typeAssert (.iface 293 v) 265 271 true).run Tryz.prog w = .ok (.tuple #[.agg #[.int .i64 0, .int .i64 0], .bool false]) w := by kernel_rfl
theorem as_undo_rest (v : Value) (w : World) : (Instr.typeAssert (.iface 293 v) 265 272 true).run Tryz.prog w = .ok (.tuple #[.agg #[.int .i64 0, .int .i64 0], .bool false]) w := by kernel_rfl
theorem as_undo_done (v : Value) (w : World) : (Instr.typeAssert (.iface 293 v) 265 273 true).run Tryz.prog w = .ok (.tuple #[.agg #[.int .i64 0, .int .i64 0], .bool false]) w := by kernel_rfl
theorem as_gone_first (v : Value) (w : World) : (Instr.typeAssert (.iface 294 v) 265 270 true).run Tryz.prog w = .ok (.tuple #[.agg #[.int .i64 0, .int .i64 0], .bool false]) w := by kernel_rfl
theorem as_gone_second (v : Value) (w : World) : (Instr.typeAssert (.iface 294 v) 265 271 true).run Tryz.prog w = .ok (.tuple #[.agg #[.int .i64 0, .int .i64 0], .bool false]) w := by kernel_rfl
theorem as_gone_rest (v : Value) (w : World) : (Instr.typeAssert (.iface 294 v) 265 272 true).run Tryz.prog w = .ok (.tuple #[.agg #[.int .i64 0, .int .i64 0], .bool false]) w := by kernel_rfl
theorem as_gone_done (v : Value) (w : World) : (Instr.typeAssert (.iface 294 v) 265 273 true).run Tryz.prog w = .ok (.tuple #[.agg #[.int .i64 0, .int .i64 0], .bool false]) w := by kernel_rfl
theorem as_left_first (v : Value) (w : World) : (Instr.typeAssert (.iface 295 v) 265 270 true).run Tryz.prog w = .ok (.tuple #[.agg #[.int .i64 0, .int .i64 0], .bool false]) w := by kernel_rfl
theorem as_left_second (v : Value) (w : World) : (Instr.typeAssert (.iface 295 v) 265 271 true).run Tryz.prog w = .ok (.tuple #[.agg #[.int .i64 0, .int .i64 0], .bool false]) w := by kernel_rfl
theorem as_left_rest (v : Value) (w : World) : (Instr.typeAssert (.iface 295 v) 265 272 true).run Tryz.prog w = .ok (.tuple #[.agg #[.int .i64 0, .int .i64 0], .bool false]) w := by kernel_rfl
theorem as_left_done (v : Value) (w : World) : (Instr.typeAssert (.iface 295 v) 265 273 true).run Tryz.prog w = .ok (.tuple #[.agg #[.int .i64 0, .int .i64 0], .bool false]) w := by kernel_rfl
/-- Whether Commit suits the state. -/
def SuitsT (s c st : Int) (r : Bool) : Prop := (st = 1 ∧ r = (c == 0)) ∨ ((st = 2 ∨ st = 3 ∨ st = 4) ∧ r = decide (s < c)) ∨ ((st = 5 ∨ st = 6 ∨ st = 7) ∧ r = true)
set_option maxHeartbeats 1000000 in
theorem commitSuits_is (s c u st a : Int) (ao : Option Addr) (n cp : Nat) (r : Bool) (hr : SuitsT s c st r) (hn : n ≤ 12) (w : World) :
    Calls Tryz.prog 137 #[.agg #[.int .i64 s, .int .i64 c, .int .i64 u, .int .i64 st, .int .i64 a, .slice ao n cp]] w fun e w' => e = .returned (.bool r) ∧ Below w.heap.size w w' := by
  obtain ⟨t, ht⟩ : ∃ t, StT st t := StT.get (by rcases hr with ⟨h, _⟩ | ⟨h, _⟩ | ⟨h, _⟩ <;> omega)
  rcases hr with ⟨rfl, rfl⟩ | ⟨h, rfl⟩ | ⟨h, rfl⟩
  · have HT : Hid (StT _ t) := ht
    clear ht
    go_enter Tryz.func137, Tryz.ntmps137
    go_wp2_with fail
    refine (stateOf_is _ _ _ _ _ _ _ _ t HT.out hn _).mono ?_
    rintro e w1 ⟨rfl, q1⟩
    have Q : Hid (Below w.heap.size w w1) := (below_alloc _ _).trans (q1.mono (by simp))
    obtain ⟨⟨k0, k1, k2, k3, k4, k5⟩, _⟩ := (Blk6.new w (.int .i64 s) (.int .i64 c) (.int .i64 u) (.int .i64 1) (.int .i64 a) (.slice ao n cp) 113).later q1
    clear q1
    obtain rfl : t = 270 := by
      rcases HT.out with h | h | h | h | h | h | h
      · exact h.2
      all_goals omega
    have t0 := as_first_first
    have t1 := as_first_second
    have t2 := as_first_rest
    have t3 := as_first_done
    go_wp2
    go_ret
    exact ⟨rfl, Q.out⟩
  · rcases h with rfl | rfl | rfl
    · have HT : Hid (StT _ t) := ht
      clear ht
      go_enter Tryz.func137, Tryz.ntmps137
      go_wp2_with fail
      refine (stateOf_is _ _ _ _ _ _ _ _ t HT.out hn _).mono ?_
      rintro e w1 ⟨rfl, q1⟩
      have Q : Hid (Below w.heap.size w w1) := (below_alloc _ _).trans (q1.mono (by simp))
      obtain ⟨⟨k0, k1, k2, k3, k4, k5⟩, _⟩ := (Blk6.new w (.int .i64 s) (.int .i64 c) (.int .i64 u) (.int .i64 2) (.int .i64 a) (.slice ao n cp) 113).later q1
      clear q1
      obtain rfl : t = 271 := by
        rcases HT.out with h | h | h | h | h | h | h
        · omega
        · exact h.2
        all_goals omega
      have t0 := as_second_first
      have t1 := as_second_second
      have t2 := as_second_rest
      have t3 := as_second_done
      go_wp2
      go_ret
      exact ⟨rfl, Q.out⟩
    · have HT : Hid (StT _ t) := ht
      clear ht
      go_enter Tryz.func137, Tryz.ntmps137
      go_wp2_with fail
      refine (stateOf_is _ _ _ _ _ _ _ _ t HT.out hn _).mono ?_
      rintro e w1 ⟨rfl, q1⟩
      have Q : Hid (Below w.heap.size w w1) := (below_alloc _ _).trans (q1.mono (by simp))
      obtain ⟨⟨k0, k1, k2, k3, k4, k5⟩, _⟩ := (Blk6.new w (.int .i64 s) (.int .i64 c) (.int .i64 u) (.int .i64 3) (.int .i64 a) (.slice ao n cp) 113).later q1
      clear q1
      obtain rfl : t = 272 := by
        rcases HT.out with h | h | h | h | h | h | h
        · omega
        · omega
        · exact h.2
        all_goals omega
      have t0 := as_rest_first
      have t1 := as_rest_second
      have t2 := as_rest_rest
      have t3 := as_rest_done
      go_wp2
      go_ret
      exact ⟨rfl, Q.out⟩
    · have HT : Hid (StT _ t) := ht
      clear ht
      go_enter Tryz.func137, Tryz.ntmps137
      go_wp2_with fail
      refine (stateOf_is _ _ _ _ _ _ _ _ t HT.out hn _).mono ?_
      rintro e w1 ⟨rfl, q1⟩
      have Q : Hid (Below w.heap.size w w1) := (below_alloc _ _).trans (q1.mono (by simp))
      obtain ⟨⟨k0, k1, k2, k3, k4, k5⟩, _⟩ := (Blk6.new w (.int .i64 s) (.int .i64 c) (.int .i64 u) (.int .i64 4) (.int .i64 a) (.slice ao n cp) 113).later q1
      clear q1
      obtain rfl : t = 273 := by
        rcases HT.out with h | h | h | h | h | h | h
        · omega
        · omega
        · omega
        · exact h.2
        all_goals omega
      have t0 := as_done_first
      have t1 := as_done_second
      have t2 := as_done_rest
      have t3 := as_done_done
      go_wp2
      go_ret
      exact ⟨rfl, Q.out⟩
  · rcases h with rfl | rfl | rfl
    · have HT : Hid (StT _ t) := ht
      clear ht
      go_enter Tryz.func137, Tryz.ntmps137
      go_wp2_with fail
      refine (stateOf_is _ _ _ _ _ _ _ _ t HT.out hn _).mono ?_
      rintro e w1 ⟨rfl, q1⟩
      have Q : Hid (Below w.heap.size w w1) := (below_alloc _ _).trans (q1.mono (by simp))
      obtain ⟨⟨k0, k1, k2, k3, k4, k5⟩, _⟩ := (Blk6.new w (.int .i64 s) (.int .i64 c) (.int .i64 u) (.int .i64 5) (.int .i64 a) (.slice ao n cp) 113).later q1
      clear q1
      obtain rfl : t = 293 := by
        rcases HT.out with h | h | h | h | h | h | h
        · omega
        · omega
        · omega
        · omega
        · exact h.2
        all_goals omega
      have t0 := as_undo_first
      have t1 := as_undo_second
      have t2 := as_undo_rest
      have t3 := as_undo_done
      go_wp2
      go_ret
      exact ⟨rfl, Q.out⟩
    · have HT : Hid (StT _ t) := ht
      clear ht
      go_enter Tryz.func137, Tryz.ntmps137
      go_wp2_with fail
      refine (stateOf_is _ _ _ _ _ _ _ _ t HT.out hn _).mono ?_
      rintro e w1 ⟨rfl, q1⟩
      have Q : Hid (Below w.heap.size w w1) := (below_alloc _ _).trans (q1.mono (by simp))
      obtain ⟨⟨k0, k1, k2, k3, k4, k5⟩, _⟩ := (Blk6.new w (.int .i64 s) (.int .i64 c) (.int .i64 u) (.int .i64 6) (.int .i64 a) (.slice ao n cp) 113).later q1
      clear q1
      obtain rfl : t = 294 := by
        rcases HT.out with h | h | h | h | h | h | h
        · omega
        · omega
        · omega
        · omega
        · omega
        · exact h.2
        · omega
      have t0 := as_gone_first
      have t1 := as_gone_second
      have t2 := as_gone_rest
      have t3 := as_gone_done
      go_wp2
      go_ret
      exact ⟨rfl, Q.out⟩
    · have HT : Hid (StT _ t) := ht
      clear ht
      go_enter Tryz.func137, Tryz.ntmps137
      go_wp2_with fail
      refine (stateOf_is _ _ _ _ _ _ _ _ t HT.out hn _).mono ?_
      rintro e w1 ⟨rfl, q1⟩
      have Q : Hid (Below w.heap.size w w1) := (below_alloc _ _).trans (q1.mono (by simp))
      obtain ⟨⟨k0, k1, k2, k3, k4, k5⟩, _⟩ := (Blk6.new w (.int .i64 s) (.int .i64 c) (.int .i64 u) (.int .i64 7) (.int .i64 a) (.slice ao n cp) 113).later q1
      clear q1
      obtain rfl : t = 295 := by
        rcases HT.out with h | h | h | h | h | h | h
        · omega
        · omega
        · omega
        · omega
        · omega
        · omega
        · exact h.2
      have t0 := as_left_first
      have t1 := as_left_second
      have t2 := as_left_rest
      have t3 := as_left_done
      go_wp2
      go_ret
      exact ⟨rfl, Q.out⟩
end Go.Proofs.YtjkchhcnochjlaaGreatDoor

namespace Go.Proofs.YtjkchhcnochjlaaGreatDoor
open Go.RowKit

theorem SuitsT.get {s c st : Int} (h : 1 ≤ st ∧ st ≤ 7) : ∃ r, SuitsT s c st r := by
  have h7 : st = 1 ∨ (st = 2 ∨ st = 3 ∨ st = 4) ∨ (st = 5 ∨ st = 6 ∨ st = 7) := by omega
  rcases h7 with h | h | h
  · exact ⟨_, Or.inl ⟨h, rfl⟩⟩
  · exact ⟨_, Or.inr (Or.inl ⟨h, rfl⟩)⟩
  · exact ⟨_, Or.inr (Or.inr ⟨h, rfl⟩)⟩
theorem SuitsT.no {s c st : Int} (h : SuitsT s c st false) : (st = 2 ∨ st = 3 ∨ st = 4) ∧ c ≤ s ∨ st = 1 ∧ c ≠ 0 := by
  rcases h with ⟨h, e⟩ | ⟨h, e⟩ | ⟨h, e⟩
  · exact Or.inr ⟨h, beq_eq_false_iff_ne.1 e.symm⟩
  · exact Or.inl ⟨h, by have := of_decide_eq_false e.symm; omega⟩
  · cases e
theorem SuitsT.yes {s c st : Int} (h : SuitsT s c st true) : ¬ ((st = 2 ∨ st = 3 ∨ st = 4) ∧ c ≤ s ∨ st = 1 ∧ c ≠ 0) := by
  rcases h with ⟨h, e⟩ | ⟨h, e⟩ | ⟨h, e⟩
  · have := eq_of_beq e.symm; omega
  · have := of_decide_eq_true e.symm; omega
  · omega
set_option maxRecDepth 100000 in
set_option maxHeartbeats 4000000 in
theorem implTxnFault_none (s u st a : Int) (n : Nat) (F : Nat → Int) (y : Value) (w : World) (h : Row w 0 3 n F y) (hcap : CapOk y) :
    Calls Tryz.prog 95 #[.agg #[.int .i64 s, .int .i64 0, .int .i64 u, .int .i64 st, .int .i64 a, y]] w fun e w' => e = .returned (.int .i64 (txnF s 0 u st a n F)) ∧ Below w.heap.size w w' := by
  obtain ⟨ao, cp, rfl⟩ := h.form
  have H : Hid (Row w 0 3 n F (.slice ao n cp)) := h
  clear h
  by_cases h0 : 1 ≤ s ∧ s ≤ 100000
  case neg =>
    have D0 : Hid (decide (1 ≤ s ∧ s ≤ 100000) = false) := decide_eq_false h0
    have E : Hid (txnF s 0 u st a n F = 3) := txnF_range (Or.inl h0)
    clear h0
    go_enter Tryz.func95, Tryz.ntmps95
    go_wp2_with fail
    refine (isTimeT_is _ _ D0.out _).mono ?_
    rintro e w9 ⟨rfl, hw9⟩
    obtain rfl := hw9.symm
    go_wp2
    go_ret
    exact ⟨by rw [E.out]; rfl, below_alloc _ _⟩
  have D0 : Hid (decide (1 ≤ s ∧ s ≤ 100000) = true) := decide_eq_true h0
  by_cases h2 : 0 ≤ u ∧ u ≤ 100000
  case neg =>
    have D2 : Hid (decide (0 ≤ u ∧ u ≤ 100000) = false) := decide_eq_false h2
    have E : Hid (txnF s 0 u st a n F = 3) := txnF_range (Or.inr (Or.inr (Or.inl h2)))
    clear h0 h2
    go_enter Tryz.func95, Tryz.ntmps95
    go_wp2_with fail
    refine (isTimeT_is _ _ D0.out _).mono ?_
    rintro e w9 ⟨rfl, hw9⟩
    obtain rfl := hw9.symm
    go_wp2_with fail
    refine (isUntilT_is _ _ D2.out _).mono ?_
    rintro e w9 ⟨rfl, hw9⟩
    obtain rfl := hw9.symm
    go_wp2
    go_ret
    exact ⟨by rw [E.out]; rfl, below_alloc _ _⟩
  have D2 : Hid (decide (0 ≤ u ∧ u ≤ 100000) = true) := decide_eq_true h2
  by_cases h3 : 1 ≤ st ∧ st ≤ 7
  case neg =>
    have E : Hid (txnF s 0 u st a n F = 3) := txnF_range (Or.inr (Or.inr (Or.inr h3)))
    by_cases h4 : st < 1
    focus
      have d : decide (st < 1) = true := decide_eq_true h4
    rotate_left
    focus
      have d : decide (st < 1) = false := decide_eq_false h4
      have d7 : decide (7 < st) = true := decide_eq_true (by omega)
    rotate_left
    all_goals
      clear h0 h2 h3 h4
      go_enter Tryz.func95, Tryz.ntmps95
      go_wp2_with fail
      refine (isTimeT_is _ _ D0.out _).mono ?_
      rintro e w9 ⟨rfl, hw9⟩
      obtain rfl := hw9.symm
      go_wp2_with fail
      refine (isUntilT_is _ _ D2.out _).mono ?_
      rintro e w9 ⟨rfl, hw9⟩
      obtain rfl := hw9.symm
      go_wp2
      go_ret
      exact ⟨by rw [E.out]; rfl, below_alloc _ _⟩
  have d : decide (st < 1) = false := decide_eq_false (by omega)
  have d7 : decide (7 < st) = false := decide_eq_false (by omega)
  have HI : Hid (InB s 0 u st) := ⟨h0, ⟨by omega, by omega⟩, h2, h3⟩
  clear h0 h2
  by_cases hm : n < 1 ∨ 12 < n
  · have E : Hid (txnF s 0 u st a n F = 2) := txnF_many HI.out hm
    clear h3
    by_cases hm1 : n < 1
    · obtain rfl : n = 0 := by omega
      clear hm hm1
      go_enter Tryz.func95, Tryz.ntmps95
      go_wp2_with fail
      refine (isTimeT_is _ _ D0.out _).mono ?_
      rintro e w9 ⟨rfl, hw9⟩
      obtain rfl := hw9.symm
      go_wp2_with fail
      refine (isUntilT_is _ _ D2.out _).mono ?_
      rintro e w9 ⟨rfl, hw9⟩
      obtain rfl := hw9.symm
      go_wp2
      go_ret
      exact ⟨by rw [E.out]; rfl, below_alloc _ _⟩
    · have e1 : decide ((n : Int) < 1) = false := decide_eq_false (by omega)
      have e2 : decide ((12 : Int) < (n : Int)) = true := decide_eq_true (by omega)
      clear hm hm1
      go_enter Tryz.func95, Tryz.ntmps95
      go_wp2_with fail
      refine (isTimeT_is _ _ D0.out _).mono ?_
      rintro e w9 ⟨rfl, hw9⟩
      obtain rfl := hw9.symm
      go_wp2_with fail
      refine (isUntilT_is _ _ D2.out _).mono ?_
      rintro e w9 ⟨rfl, hw9⟩
      obtain rfl := hw9.symm
      go_wp2
      go_ret
      exact ⟨by rw [E.out]; rfl, below_alloc _ _⟩
  have HM : Hid (¬ (n < 1 ∨ 12 < n)) := hm
  have e1 : decide ((n : Int) < 1) = false := decide_eq_false (by omega)
  have e2 : decide ((12 : Int) < (n : Int)) = false := decide_eq_false (by omega)
  have hn12 : n ≤ 12 := by omega
  clear hm
  obtain ⟨f, hf⟩ : ∃ f, itemsF F n 0 = f := ⟨_, rfl⟩
  have HF : Hid (itemsF F n 0 = f) := hf
  clear hf
  by_cases hf : f = 0
  case neg =>
    have E : Hid (txnF s 0 u st a n F = f) := txnF_item HI.out HM.out HF.out hf
    have df : (f != 0) = true := bne_iff_ne.2 hf
    clear hf h3
    go_enter Tryz.func95, Tryz.ntmps95
    go_wp2_with fail
    refine (isTimeT_is _ _ D0.out _).mono ?_
    rintro e w9 ⟨rfl, hw9⟩
    obtain rfl := hw9.symm
    go_wp2_with fail
    refine (isUntilT_is _ _ D2.out _).mono ?_
    rintro e w9 ⟨rfl, hw9⟩
    obtain rfl := hw9.symm
    go_wp2_with fail
    refine (itemsFault_is _ 0 n F _ (H.out.alloc _) hcap hn12).mono ?_
    rintro e w1 ⟨rfl, q1⟩
    rw [HF.out]
    have Q : Hid (Below w.heap.size w w1) := (below_alloc _ _).trans (q1.mono (by simp))
    obtain ⟨⟨k0, k1, k2, k3, k4, k5⟩, _⟩ := (Blk6.new w (.int .i64 s) (.int .i64 0) (.int .i64 u) (.int .i64 st) (.int .i64 a) (.slice ao n cp) 113).later q1
    clear q1
    go_wp2
    go_ret
    exact ⟨by rw [E.out]; rfl, Q.out⟩
  subst hf
  by_cases ha : 0 ≤ a ∧ a ≤ n
  case neg =>
    have E : Hid (txnF s 0 u st a n F = 3) := txnF_at HI.out HM.out HF.out ha
    by_cases ha0 : a < 0
    focus
      have da : decide (a < 0) = true := decide_eq_true ha0
    rotate_left
    focus
      have da : decide (a < 0) = false := decide_eq_false ha0
      have db : decide ((n : Int) < a) = true := decide_eq_true (by omega)
    rotate_left
    all_goals
      clear ha ha0 h3
      go_enter Tryz.func95, Tryz.ntmps95
      go_wp2_with fail
      refine (isTimeT_is _ _ D0.out _).mono ?_
      rintro e w9 ⟨rfl, hw9⟩
      obtain rfl := hw9.symm
      go_wp2_with fail
      refine (isUntilT_is _ _ D2.out _).mono ?_
      rintro e w9 ⟨rfl, hw9⟩
      obtain rfl := hw9.symm
      go_wp2_with fail
      refine (itemsFault_is _ 0 n F _ (H.out.alloc _) hcap hn12).mono ?_
      rintro e w1 ⟨rfl, q1⟩
      rw [HF.out]
      have Q : Hid (Below w.heap.size w w1) := (below_alloc _ _).trans (q1.mono (by simp))
      obtain ⟨⟨k0, k1, k2, k3, k4, k5⟩, _⟩ := (Blk6.new w (.int .i64 s) (.int .i64 0) (.int .i64 u) (.int .i64 st) (.int .i64 a) (.slice ao n cp) 113).later q1
      clear q1
      go_wp2
      go_ret
      exact ⟨by rw [E.out]; rfl, Q.out⟩
  have da : decide (a < 0) = false := decide_eq_false (by omega)
  have db : decide ((n : Int) < a) = false := decide_eq_false (by omega)
  obtain ⟨r, hr⟩ : ∃ r, SuitsT s 0 st r := SuitsT.get h3
  have HR : Hid (SuitsT s 0 st r) := hr
  have HA : Hid (0 ≤ a ∧ a ≤ n) := ha
  clear ha h3 hr
  cases r with
  | false =>
    have E : Hid (txnF s 0 u st a n F = 1) := txnF_form HI.out HM.out HF.out HA.out HR.out.no
    go_enter Tryz.func95, Tryz.ntmps95
    go_wp2_with fail
    refine (isTimeT_is _ _ D0.out _).mono ?_
    rintro e w9 ⟨rfl, hw9⟩
    obtain rfl := hw9.symm
    go_wp2_with fail
    refine (isUntilT_is _ _ D2.out _).mono ?_
    rintro e w9 ⟨rfl, hw9⟩
    obtain rfl := hw9.symm
    go_wp2_with fail
    refine (itemsFault_is _ 0 n F _ (H.out.alloc _) hcap hn12).mono ?_
    rintro e w1 ⟨rfl, q1⟩
    rw [HF.out]
    have Q : Hid (Below w.heap.size w w1) := (below_alloc _ _).trans (q1.mono (by simp))
    obtain ⟨⟨k0, k1, k2, k3, k4, k5⟩, _⟩ := (Blk6.new w (.int .i64 s) (.int .i64 0) (.int .i64 u) (.int .i64 st) (.int .i64 a) (.slice ao n cp) 113).later q1
    clear q1
    go_wp2_with fail
    refine (commitSuits_is s 0 u st a ao n cp _ HR.out hn12 _).mono ?_
    rintro e w2 ⟨rfl, q2⟩
    have Q : Hid (Below w.heap.size w w2) := Q.out.trans (q2.mono Q.out.size)
    clear q2
    go_wp2
    go_ret
    exact ⟨by rw [E.out]; rfl, Q.out⟩
  | true =>
    have E : Hid (txnF s 0 u st a n F = 0) := txnF_ok HI.out HM.out HF.out HA.out HR.out.yes
    go_enter Tryz.func95, Tryz.ntmps95
    go_wp2_with fail
    refine (isTimeT_is _ _ D0.out _).mono ?_
    rintro e w9 ⟨rfl, hw9⟩
    obtain rfl := hw9.symm
    go_wp2_with fail
    refine (isUntilT_is _ _ D2.out _).mono ?_
    rintro e w9 ⟨rfl, hw9⟩
    obtain rfl := hw9.symm
    go_wp2_with fail
    refine (itemsFault_is _ 0 n F _ (H.out.alloc _) hcap hn12).mono ?_
    rintro e w1 ⟨rfl, q1⟩
    rw [HF.out]
    have Q : Hid (Below w.heap.size w w1) := (below_alloc _ _).trans (q1.mono (by simp))
    obtain ⟨⟨k0, k1, k2, k3, k4, k5⟩, _⟩ := (Blk6.new w (.int .i64 s) (.int .i64 0) (.int .i64 u) (.int .i64 st) (.int .i64 a) (.slice ao n cp) 113).later q1
    clear q1
    go_wp2_with fail
    refine (commitSuits_is s 0 u st a ao n cp _ HR.out hn12 _).mono ?_
    rintro e w2 ⟨rfl, q2⟩
    have Q : Hid (Below w.heap.size w w2) := Q.out.trans (q2.mono Q.out.size)
    clear q2
    go_wp2
    go_ret
    exact ⟨by rw [E.out]; rfl, Q.out⟩
set_option maxRecDepth 100000 in
set_option maxHeartbeats 4000000 in
theorem implTxnFault_some (s c u st a : Int) (n : Nat) (F : Nat → Int) (y : Value) (w : World) (h : Row w 0 3 n F y) (hcap : CapOk y) (hc0 : c ≠ 0) (h1 : 0 ≤ c ∧ c ≤ 100000) :
    Calls Tryz.prog 95 #[.agg #[.int .i64 s, .int .i64 c, .int .i64 u, .int .i64 st, .int .i64 a, y]] w fun e w' => e = .returned (.int .i64 (txnF s c u st a n F)) ∧ Below w.heap.size w w' := by
  obtain ⟨ao, cp, rfl⟩ := h.form
  have H : Hid (Row w 0 3 n F (.slice ao n cp)) := h
  clear h
  have dc : (c != 0) = true := bne_iff_ne.2 hc0
  have DC : Hid (decide (1 ≤ c ∧ c ≤ 100000) = true) := decide_eq_true (by omega)
  by_cases h0 : 1 ≤ s ∧ s ≤ 100000
  case neg =>
    have D0 : Hid (decide (1 ≤ s ∧ s ≤ 100000) = false) := decide_eq_false h0
    have E : Hid (txnF s c u st a n F = 3) := txnF_range (Or.inl h0)
    clear h0
    go_enter Tryz.func95, Tryz.ntmps95
    go_wp2_with fail
    refine (isTimeT_is _ _ DC.out _).mono ?_
    rintro e w9 ⟨rfl, hw9⟩
    obtain rfl := hw9.symm
    go_wp2_with fail
    refine (isTimeT_is _ _ D0.out _).mono ?_
    rintro e w9 ⟨rfl, hw9⟩
    obtain rfl := hw9.symm
    go_wp2
    go_ret
    exact ⟨by rw [E.out]; rfl, below_alloc _ _⟩
  have D0 : Hid (decide (1 ≤ s ∧ s ≤ 100000) = true) := decide_eq_true h0
  by_cases h2 : 0 ≤ u ∧ u ≤ 100000
  case neg =>
    have D2 : Hid (decide (0 ≤ u ∧ u ≤ 100000) = false) := decide_eq_false h2
    have E : Hid (txnF s c u st a n F = 3) := txnF_range (Or.inr (Or.inr (Or.inl h2)))
    clear h0 h2
    go_enter Tryz.func95, Tryz.ntmps95
    go_wp2_with fail
    refine (isTimeT_is _ _ DC.out _).mono ?_
    rintro e w9 ⟨rfl, hw9⟩
    obtain rfl := hw9.symm
    go_wp2_with fail
    refine (isTimeT_is _ _ D0.out _).mono ?_
    rintro e w9 ⟨rfl, hw9⟩
    obtain rfl := hw9.symm
    go_wp2_with fail
    refine (isUntilT_is _ _ D2.out _).mono ?_
    rintro e w9 ⟨rfl, hw9⟩
    obtain rfl := hw9.symm
    go_wp2
    go_ret
    exact ⟨by rw [E.out]; rfl, below_alloc _ _⟩
  have D2 : Hid (decide (0 ≤ u ∧ u ≤ 100000) = true) := decide_eq_true h2
  by_cases h3 : 1 ≤ st ∧ st ≤ 7
  case neg =>
    have E : Hid (txnF s c u st a n F = 3) := txnF_range (Or.inr (Or.inr (Or.inr h3)))
    by_cases h4 : st < 1
    focus
      have d : decide (st < 1) = true := decide_eq_true h4
    rotate_left
    focus
      have d : decide (st < 1) = false := decide_eq_false h4
      have d7 : decide (7 < st) = true := decide_eq_true (by omega)
    rotate_left
    all_goals
      clear h0 h2 h3 h4
      go_enter Tryz.func95, Tryz.ntmps95
      go_wp2_with fail
      refine (isTimeT_is _ _ DC.out _).mono ?_
      rintro e w9 ⟨rfl, hw9⟩
      obtain rfl := hw9.symm
      go_wp2_with fail
      refine (isTimeT_is _ _ D0.out _).mono ?_
      rintro e w9 ⟨rfl, hw9⟩
      obtain rfl := hw9.symm
      go_wp2_with fail
      refine (isUntilT_is _ _ D2.out _).mono ?_
      rintro e w9 ⟨rfl, hw9⟩
      obtain rfl := hw9.symm
      go_wp2
      go_ret
      exact ⟨by rw [E.out]; rfl, below_alloc _ _⟩
  have d : decide (st < 1) = false := decide_eq_false (by omega)
  have d7 : decide (7 < st) = false := decide_eq_false (by omega)
  have HI : Hid (InB s c u st) := ⟨h0, h1, h2, h3⟩
  clear h0 h2
  by_cases hm : n < 1 ∨ 12 < n
  · have E : Hid (txnF s c u st a n F = 2) := txnF_many HI.out hm
    clear h3
    by_cases hm1 : n < 1
    · obtain rfl : n = 0 := by omega
      clear hm hm1
      go_enter Tryz.func95, Tryz.ntmps95
      go_wp2_with fail
      refine (isTimeT_is _ _ DC.out _).mono ?_
      rintro e w9 ⟨rfl, hw9⟩
      obtain rfl := hw9.symm
      go_wp2_with fail
      refine (isTimeT_is _ _ D0.out _).mono ?_
      rintro e w9 ⟨rfl, hw9⟩
      obtain rfl := hw9.symm
      go_wp2_with fail
      refine (isUntilT_is _ _ D2.out _).mono ?_
      rintro e w9 ⟨rfl, hw9⟩
      obtain rfl := hw9.symm
      go_wp2
      go_ret
      exact ⟨by rw [E.out]; rfl, below_alloc _ _⟩
    · have e1 : decide ((n : Int) < 1) = false := decide_eq_false (by omega)
      have e2 : decide ((12 : Int) < (n : Int)) = true := decide_eq_true (by omega)
      clear hm hm1
      go_enter Tryz.func95, Tryz.ntmps95
      go_wp2_with fail
      refine (isTimeT_is _ _ DC.out _).mono ?_
      rintro e w9 ⟨rfl, hw9⟩
      obtain rfl := hw9.symm
      go_wp2_with fail
      refine (isTimeT_is _ _ D0.out _).mono ?_
      rintro e w9 ⟨rfl, hw9⟩
      obtain rfl := hw9.symm
      go_wp2_with fail
      refine (isUntilT_is _ _ D2.out _).mono ?_
      rintro e w9 ⟨rfl, hw9⟩
      obtain rfl := hw9.symm
      go_wp2
      go_ret
      exact ⟨by rw [E.out]; rfl, below_alloc _ _⟩
  have HM : Hid (¬ (n < 1 ∨ 12 < n)) := hm
  have e1 : decide ((n : Int) < 1) = false := decide_eq_false (by omega)
  have e2 : decide ((12 : Int) < (n : Int)) = false := decide_eq_false (by omega)
  have hn12 : n ≤ 12 := by omega
  clear hm
  obtain ⟨f, hf⟩ : ∃ f, itemsF F n 0 = f := ⟨_, rfl⟩
  have HF : Hid (itemsF F n 0 = f) := hf
  clear hf
  by_cases hf : f = 0
  case neg =>
    have E : Hid (txnF s c u st a n F = f) := txnF_item HI.out HM.out HF.out hf
    have df : (f != 0) = true := bne_iff_ne.2 hf
    clear hf h3
    go_enter Tryz.func95, Tryz.ntmps95
    go_wp2_with fail
    refine (isTimeT_is _ _ DC.out _).mono ?_
    rintro e w9 ⟨rfl, hw9⟩
    obtain rfl := hw9.symm
    go_wp2_with fail
    refine (isTimeT_is _ _ D0.out _).mono ?_
    rintro e w9 ⟨rfl, hw9⟩
    obtain rfl := hw9.symm
    go_wp2_with fail
    refine (isUntilT_is _ _ D2.out _).mono ?_
    rintro e w9 ⟨rfl, hw9⟩
    obtain rfl := hw9.symm
    go_wp2_with fail
    refine (itemsFault_is _ 0 n F _ (H.out.alloc _) hcap hn12).mono ?_
    rintro e w1 ⟨rfl, q1⟩
    rw [HF.out]
    have Q : Hid (Below w.heap.size w w1) := (below_alloc _ _).trans (q1.mono (by simp))
    obtain ⟨⟨k0, k1, k2, k3, k4, k5⟩, _⟩ := (Blk6.new w (.int .i64 s) (.int .i64 c) (.int .i64 u) (.int .i64 st) (.int .i64 a) (.slice ao n cp) 113).later q1
    clear q1
    go_wp2
    go_ret
    exact ⟨by rw [E.out]; rfl, Q.out⟩
  subst hf
  by_cases ha : 0 ≤ a ∧ a ≤ n
  case neg =>
    have E : Hid (txnF s c u st a n F = 3) := txnF_at HI.out HM.out HF.out ha
    by_cases ha0 : a < 0
    focus
      have da : decide (a < 0) = true := decide_eq_true ha0
    rotate_left
    focus
      have da : decide (a < 0) = false := decide_eq_false ha0
      have db : decide ((n : Int) < a) = true := decide_eq_true (by omega)
    rotate_left
    all_goals
      clear ha ha0 h3
      go_enter Tryz.func95, Tryz.ntmps95
      go_wp2_with fail
      refine (isTimeT_is _ _ DC.out _).mono ?_
      rintro e w9 ⟨rfl, hw9⟩
      obtain rfl := hw9.symm
      go_wp2_with fail
      refine (isTimeT_is _ _ D0.out _).mono ?_
      rintro e w9 ⟨rfl, hw9⟩
      obtain rfl := hw9.symm
      go_wp2_with fail
      refine (isUntilT_is _ _ D2.out _).mono ?_
      rintro e w9 ⟨rfl, hw9⟩
      obtain rfl := hw9.symm
      go_wp2_with fail
      refine (itemsFault_is _ 0 n F _ (H.out.alloc _) hcap hn12).mono ?_
      rintro e w1 ⟨rfl, q1⟩
      rw [HF.out]
      have Q : Hid (Below w.heap.size w w1) := (below_alloc _ _).trans (q1.mono (by simp))
      obtain ⟨⟨k0, k1, k2, k3, k4, k5⟩, _⟩ := (Blk6.new w (.int .i64 s) (.int .i64 c) (.int .i64 u) (.int .i64 st) (.int .i64 a) (.slice ao n cp) 113).later q1
      clear q1
      go_wp2
      go_ret
      exact ⟨by rw [E.out]; rfl, Q.out⟩
  have da : decide (a < 0) = false := decide_eq_false (by omega)
  have db : decide ((n : Int) < a) = false := decide_eq_false (by omega)
  obtain ⟨r, hr⟩ : ∃ r, SuitsT s c st r := SuitsT.get h3
  have HR : Hid (SuitsT s c st r) := hr
  have HA : Hid (0 ≤ a ∧ a ≤ n) := ha
  clear ha h3 hr
  cases r with
  | false =>
    have E : Hid (txnF s c u st a n F = 1) := txnF_form HI.out HM.out HF.out HA.out HR.out.no
    go_enter Tryz.func95, Tryz.ntmps95
    go_wp2_with fail
    refine (isTimeT_is _ _ DC.out _).mono ?_
    rintro e w9 ⟨rfl, hw9⟩
    obtain rfl := hw9.symm
    go_wp2_with fail
    refine (isTimeT_is _ _ D0.out _).mono ?_
    rintro e w9 ⟨rfl, hw9⟩
    obtain rfl := hw9.symm
    go_wp2_with fail
    refine (isUntilT_is _ _ D2.out _).mono ?_
    rintro e w9 ⟨rfl, hw9⟩
    obtain rfl := hw9.symm
    go_wp2_with fail
    refine (itemsFault_is _ 0 n F _ (H.out.alloc _) hcap hn12).mono ?_
    rintro e w1 ⟨rfl, q1⟩
    rw [HF.out]
    have Q : Hid (Below w.heap.size w w1) := (below_alloc _ _).trans (q1.mono (by simp))
    obtain ⟨⟨k0, k1, k2, k3, k4, k5⟩, _⟩ := (Blk6.new w (.int .i64 s) (.int .i64 c) (.int .i64 u) (.int .i64 st) (.int .i64 a) (.slice ao n cp) 113).later q1
    clear q1
    go_wp2_with fail
    refine (commitSuits_is s c u st a ao n cp _ HR.out hn12 _).mono ?_
    rintro e w2 ⟨rfl, q2⟩
    have Q : Hid (Below w.heap.size w w2) := Q.out.trans (q2.mono Q.out.size)
    clear q2
    go_wp2
    go_ret
    exact ⟨by rw [E.out]; rfl, Q.out⟩
  | true =>
    have E : Hid (txnF s c u st a n F = 0) := txnF_ok HI.out HM.out HF.out HA.out HR.out.yes
    go_enter Tryz.func95, Tryz.ntmps95
    go_wp2_with fail
    refine (isTimeT_is _ _ DC.out _).mono ?_
    rintro e w9 ⟨rfl, hw9⟩
    obtain rfl := hw9.symm
    go_wp2_with fail
    refine (isTimeT_is _ _ D0.out _).mono ?_
    rintro e w9 ⟨rfl, hw9⟩
    obtain rfl := hw9.symm
    go_wp2_with fail
    refine (isUntilT_is _ _ D2.out _).mono ?_
    rintro e w9 ⟨rfl, hw9⟩
    obtain rfl := hw9.symm
    go_wp2_with fail
    refine (itemsFault_is _ 0 n F _ (H.out.alloc _) hcap hn12).mono ?_
    rintro e w1 ⟨rfl, q1⟩
    rw [HF.out]
    have Q : Hid (Below w.heap.size w w1) := (below_alloc _ _).trans (q1.mono (by simp))
    obtain ⟨⟨k0, k1, k2, k3, k4, k5⟩, _⟩ := (Blk6.new w (.int .i64 s) (.int .i64 c) (.int .i64 u) (.int .i64 st) (.int .i64 a) (.slice ao n cp) 113).later q1
    clear q1
    go_wp2_with fail
    refine (commitSuits_is s c u st a ao n cp _ HR.out hn12 _).mono ?_
    rintro e w2 ⟨rfl, q2⟩
    have Q : Hid (Below w.heap.size w w2) := Q.out.trans (q2.mono Q.out.size)
    clear q2
    go_wp2
    go_ret
    exact ⟨by rw [E.out]; rfl, Q.out⟩
set_option maxHeartbeats 1000000 in
theorem implTxnFault_any (s c u st a : Int) (n : Nat) (F : Nat → Int) (y : Value) (w : World) (h : Row w 0 3 n F y) (hcap : CapOk y) :
    Calls Tryz.prog 95 #[.agg #[.int .i64 s, .int .i64 c, .int .i64 u, .int .i64 st, .int .i64 a, y]] w fun e w' => e = .returned (.int .i64 (txnF s c u st a n F)) ∧ Below w.heap.size w w' := by
  by_cases hc : c = 0
  · subst hc
    exact implTxnFault_none s u st a n F y w h hcap
  by_cases h1 : 0 ≤ c ∧ c ≤ 100000
  · exact implTxnFault_some s c u st a n F y w h hcap hc h1
  obtain ⟨ao, cp, rfl⟩ := h.form
  have dc : (c != 0) = true := bne_iff_ne.2 hc
  have DC : Hid (decide (1 ≤ c ∧ c ≤ 100000) = false) := decide_eq_false (by omega)
  have E : Hid (txnF s c u st a n F = 3) := txnF_range (Or.inr (Or.inl h1))
  clear h hcap
  obtain ⟨r, hr⟩ : ∃ r, decide (1 ≤ s ∧ s ≤ 100000) = r := ⟨_, rfl⟩
  have D0 : Hid (decide (1 ≤ s ∧ s ≤ 100000) = r) := hr
  clear hr hc h1
  cases r with
  | false =>
    go_enter Tryz.func95, Tryz.ntmps95
    go_wp2_with fail
    refine (isTimeT_is _ _ DC.out _).mono ?_
    rintro e w9 ⟨rfl, hw9⟩
    obtain rfl := hw9.symm
    go_wp2_with fail
    refine (isTimeT_is _ _ D0.out _).mono ?_
    rintro e w9 ⟨rfl, hw9⟩
    obtain rfl := hw9.symm
    go_wp2
    go_ret
    exact ⟨by rw [E.out]; rfl, below_alloc _ _⟩
  | true =>
    go_enter Tryz.func95, Tryz.ntmps95
    go_wp2_with fail
    refine (isTimeT_is _ _ DC.out _).mono ?_
    rintro e w9 ⟨rfl, hw9⟩
    obtain rfl := hw9.symm
    go_wp2_with fail
    refine (isTimeT_is _ _ D0.out _).mono ?_
    rintro e w9 ⟨rfl, hw9⟩
    obtain rfl := hw9.symm
    go_wp2
    go_ret
    exact ⟨by rw [E.out]; rfl, below_alloc _ _⟩
end Go.Proofs.YtjkchhcnochjlaaGreatDoor

namespace Go.Proofs.YtjkchhcnochjlaaGreatDoor
open Go.RowKit

theorem isNowW_is (now : Int) (r : Bool) (hr : decide (0 ≤ now ∧ now ≤ 100000) = r) (w : World) :
    Calls Tryz.prog 59 #[.int .i64 now] w fun e w' => e = .returned (.bool r) ∧ w' = w := by
  go_enter Tryz.func59, Tryz.ntmps59
  go_wp2_with fail
  refine (isUntil_is now r hr _).mono ?_
  rintro e w1 ⟨rfl, hw1⟩
  obtain rfl := hw1.symm
  go_wp2
  go_ret
  exact ⟨rfl, rfl⟩
/-- The box of a world, the box of one of its transactions, and the rows; nothing old has turned. -/
structure PlE (w : World) (nw nx bd : Int) (vr vs : Value) (nt : Nat) (T : Nat → Tx) (X : Nat → Value) (vt : Value) (t : Tx) (y : Value) (x : World) : Prop where
  below : Below w.heap.size w x
  kw : Blk6 x w.heap.size (.int .i64 nw) (.int .i64 nx) (.int .i64 bd) vr vs vt
  kt : Blk6 x (w.heap.size + 1) (.int .i64 t.s) (.int .i64 t.c) (.int .i64 t.u) (.int .i64 t.st) (.int .i64 t.a) y
  txs : Txs x 0 nt T X vt
theorem PlE.later {w : World} {nw nx bd : Int} {vr vs : Value} {nt : Nat} {T : Nat → Tx} {X : Nat → Value} {vt : Value} {t : Tx} {y : Value} {x x' : World} (h : PlE w nw nx bd vr vs nt T X vt t y x) (hb : Below x.heap.size x x') : PlE w nw nx bd vr vs nt T X vt t y x' :=
  ⟨h.below.trans (hb.mono h.below.size), h.kw.later hb, h.kt.later hb, h.txs.later hb⟩
theorem below_pl {B : Nat} {a w : World} (h : Below B a w) (q : Nat) : Below B a (w.drewN q) := ⟨h.os, h.tape, h.output, h.size, h.block⟩
set_option maxRecDepth 100000 in
set_option maxHeartbeats 8000000 in
theorem implPlace_any (nw nx bd : Int) (vr vs : Value) (nt : Nat) (T : Nat → Tx) (X : Nat → Value) (vt : Value) (k : Nat) (w : World) (hx : Txs w 0 nt T X vt) (hk : k < nt) (hn16 : nt ≤ 16) :
    Calls Tryz.prog 62 #[.agg #[.int .i64 nw, .int .i64 nx, .int .i64 bd, vr, vs, vt], .int .i64 k] w fun e w' => e = .returned (.int .i64 (placeF nx T k)) ∧ Below w.heap.size w w' := by
  obtain ⟨a2, c2, rfl⟩ := hx.form
  have H : Hid (Txs w 0 nt T X (.slice a2 nt c2)) := hx
  obtain ⟨g, o, ha2, _, hg, ⟨x0, x1, x2, x3, x4, x5⟩, hrow, hcap⟩ := hx.at hk
  subst ha2
  clear hx
  obtain ⟨t, ht⟩ : ∃ t, T k = t := ⟨_, rfl⟩
  have HT : Hid (T k = t) := ht
  rw [ht] at x0 x1 x2 x3 x4 hrow
  obtain ⟨y, hy⟩ : ∃ y, X k = y := ⟨_, rfl⟩
  rw [hy] at x5 hrow hcap
  clear ht hy
  obtain ⟨yo, yc, rfl⟩ := hrow.form
  have HR : Hid (Row w 0 3 t.m t.L (.slice yo t.m yc) ∧ CapOk (.slice yo t.m yc)) := ⟨hrow, hcap⟩
  have P0 : Hid (PlE w nw nx bd vr vs nt T X (.slice (some ⟨g, o, none⟩) nt c2) t (.slice yo t.m yc) ((w.alloc (.cells #[.int .i64 nw, .int .i64 nx, .int .i64 bd, vr, vs, .slice (some ⟨g, o, none⟩) nt c2] 45)).alloc (.cells #[.int .i64 t.s, .int .i64 t.c, .int .i64 t.u, .int .i64 t.st, .int .i64 t.a, .slice yo t.m yc] 113))) :=
    ⟨(below_alloc _ _).alloc (by simp) _, (Blk6.new w _ _ _ _ _ _ _).alloc _, by have := Blk6.new (w.alloc (.cells #[.int .i64 nw, .int .i64 nx, .int .i64 bd, vr, vs, .slice (some ⟨g, o, none⟩) nt c2] 45)) (.int .i64 t.s) (.int .i64 t.c) (.int .i64 t.u) (.int .i64 t.st) (.int .i64 t.a) (.slice yo t.m yc) 113; rwa [World.size_alloc] at this, (H.out.alloc _).alloc _⟩
  clear hrow hcap
  obtain ⟨f, hf⟩ : ∃ f, txnF t.s t.c t.u t.st t.a t.m t.L = f := ⟨_, rfl⟩
  have HF : Hid (txnF t.s t.c t.u t.st t.a t.m t.L = f) := hf
  have HF' : Hid (txF (T k) = f) := by unfold Hid; rw [HT.out]; exact hf
  clear hf
  go_enter Tryz.func62, Tryz.ntmps62
  go_wp2_with fail
  refine (implTxnFault_any _ _ _ _ _ _ _ _ _ ((HR.out.1.alloc _).alloc _) HR.out.2).mono ?_
  rw [HF.out]
  rintro e w1 ⟨rfl, q1⟩
  have P1 : Hid (PlE w nw nx bd vr vs nt T X (.slice (some ⟨g, o, none⟩) nt c2) t (.slice yo t.m yc) w1) := P0.out.later q1
  clear q1 P0 x0 x1 x2 x3 x4 x5
  by_cases hz : f = 0
  case neg =>
    have d' : (f != 0) = true := bne_iff_ne.2 hz
    have E : Hid (placeF nx T k = f) := (placeF_txn (by rw [HF'.out]; exact hz)).trans HF'.out
    clear hz HF HF'
    go_wp2
    go_ret
    exact ⟨by rw [E.out]; rfl, P1.out.below⟩
  subst hz
  obtain ⟨⟨p0, p1, p2, p3, p4, p5⟩, _⟩ := P1.out.kw
  obtain ⟨⟨t0, t1, t2, t3, t4, t5⟩, _⟩ := P1.out.kt
  obtain ⟨s, hs⟩ : ∃ x, t.s = x := ⟨_, rfl⟩
  obtain ⟨c, hc⟩ : ∃ x, t.c = x := ⟨_, rfl⟩
  rw [hs] at t0
  rw [hc] at t1
  have HSC : Hid (t.s = s ∧ t.c = c) := ⟨hs, hc⟩
  clear hs hc
  by_cases h1 : nx ≤ s
  · have d1 : decide (s ≥ nx) = true := decide_eq_true h1
    have E : Hid (placeF nx T k = 3) := placeF_next HF'.out (Or.inl (by rw [HT.out, HSC.out.1]; exact h1))
    clear HF HF'
    go_wp2
    go_ret
    exact ⟨by rw [E.out]; rfl, P1.out.below⟩
  have d1 : decide (s ≥ nx) = false := decide_eq_false h1
  by_cases h2 : nx ≤ c
  · have d2 : decide (c ≥ nx) = true := decide_eq_true h2
    have E : Hid (placeF nx T k = 3) := placeF_next HF'.out (Or.inr (by rw [HT.out, HSC.out.2]; exact h2))
    clear HF HF'
    go_wp2
    go_ret
    exact ⟨by rw [E.out]; rfl, P1.out.below⟩
  have d2 : decide (c ≥ nx) = false := decide_eq_false h2
  have HX : Hid (¬ (nx ≤ (T k).s ∨ nx ≤ (T k).c)) := by
    unfold Hid
    rw [HT.out, HSC.out.1, HSC.out.2]
    omega
  go_wp2
  clear p0 p1 p2 p3 p4 p5 t0 t1 t2 t3 t4 t5 h1 h2 d1 d2
  go_loopw [33] (fun i wr => ∃ m : Nat, m ≤ k ∧ i = .int .i64 m ∧ Hid (¬ takenT T k m) ∧ Hid (PlE w nw nx bd vr vs nt T X (.slice (some ⟨g, o, none⟩) nt c2) t (.slice yo t.m yc) wr)) (fun i _ => k - (intOf i).toNat)
  case atStart => exact ⟨0, Nat.zero_le _, rfl, takenT_none T k, P1⟩
  case round =>
    clear P1
    obtain ⟨m, hmk, rfl, HN, HB⟩ := hrel
    by_cases hlm : m < k
    case neg =>
      obtain rfl : m = k := by omega
      have E : Hid (placeF nx T m = 0) := placeF_ok HF'.out HX.out HN.out
      go_wp2
      go_ret
      exact ⟨by rw [E.out]; rfl, HB.out.below⟩
    obtain ⟨⟨p0, p1, p2, p3, p4, p5⟩, _⟩ := HB.out.kw
    obtain ⟨⟨t0, t1, t2, t3, t4, t5⟩, _⟩ := HB.out.kt
    rw [HSC.out.1] at t0
    obtain ⟨g1, o1, e1, _, _, ⟨y0, _⟩, _⟩ := HB.out.txs.at (i := m) (by omega)
    simp only [Option.some.injEq, Addr.mk.injEq, and_true] at e1
    obtain ⟨rfl, rfl⟩ := e1
    obtain ⟨r, hr'⟩ : ∃ x, (T m).s = x := ⟨_, rfl⟩
    rw [hr'] at y0
    have HRR : Hid ((T m).s = r) := hr'
    clear hr'
    have hmn : m < nt := by omega
    by_cases he : r = s
    · have E : Hid (placeF nx T k = 6) := placeF_taken HF'.out HX.out ⟨m, hlm, by rw [HRR.out, HT.out, HSC.out.1]; exact he⟩
      have d1 : (r == s) = true := beq_iff_eq.2 he
      clear he HF HF' HN HX HRR
      go_wp2_with fail
      go_quiet (fail)
      go_wp2
      go_ret
      exact ⟨by rw [E.out]; rfl, below_pl HB.out.below _⟩
    · have HN1 : Hid (¬ takenT T k (m + 1)) := takenT_go HN.out (by rw [HRR.out, HT.out, HSC.out.1]; exact he)
      have d1 : (r == s) = false := beq_eq_false_iff_ne.2 he
      clear he HN HRR
      go_wp2_with fail
      go_quiet (fail)
      go_wp2
      go_roundw
      case rel => exact ⟨m + 1, by omega, by go_num, HN1, HB.out.later (below_pl (Below.refl _ _) _)⟩
      case measure => simp [intOf]; omega
end Go.Proofs.YtjkchhcnochjlaaGreatDoor

namespace Go.Proofs.YtjkchhcnochjlaaGreatDoor
open Go.RowKit

/-- The closure that is told a key: the range lies in block br. -/
def strayV (br : Nat) : Value := .func (.func 129) #[] #[.pointer (some ⟨br, 0, none⟩)]
/-- The closures' blocks. -/
def StrE (br bq : Nat) (fr tto : Int) (x : World) : Prop := x.cell? ⟨bq, 0, none⟩ = some (strayV br) ∧ x.cell? ⟨br, 0, none⟩ = some (.int .i64 fr) ∧ x.cell? ⟨br, 1, none⟩ = some (.int .i64 tto)
theorem StrE.later {x x' : World} {br bq : Nat} {fr tto : Int} (h : StrE br bq fr tto x) (hb : Below x.heap.size x x') : StrE br bq fr tto x' :=
  ⟨(hb.cell (p := ⟨bq, 0, none⟩) (World.block_lt_of_cell? x _ h.1)).trans h.1, (hb.cell (p := ⟨br, 0, none⟩) (World.block_lt_of_cell? x _ h.2.1)).trans h.2.1, (hb.cell (p := ⟨br, 1, none⟩) (World.block_lt_of_cell? x _ h.2.2)).trans h.2.2⟩
def outK (fr tto key : Int) : Bool := decide (key < fr ∨ tto ≤ key)
set_option maxHeartbeats 1000000 in
theorem stray1_is (br : Nat) (fr tto key : Int) (w : World) (h0 : w.cell? ⟨br, 0, none⟩ = some (.int .i64 fr)) (h1 : w.cell? ⟨br, 1, none⟩ = some (.int .i64 tto)) :
    Calls Tryz.prog 129 #[.int .i64 key, .pointer (some ⟨br, 0, none⟩)] w fun e w' => e = .returned (.bool (outK fr tto key)) ∧ w' = w := by
  by_cases q0 : key < fr
  · have E : Hid (outK fr tto key = true) := decide_eq_true (Or.inl q0)
    have d : decide (key < fr) = true := decide_eq_true q0
    clear q0
    go_enter Tryz.func129, Tryz.ntmps129
    go_wp2
    go_ret
    exact ⟨by rw [E.out]; rfl, rfl⟩
  have d : decide (key < fr) = false := decide_eq_false q0
  by_cases q1 : tto ≤ key
  · have E : Hid (outK fr tto key = true) := decide_eq_true (Or.inr q1)
    have d1 : decide (tto ≤ key) = true := decide_eq_true q1
    clear q0 q1
    go_enter Tryz.func129, Tryz.ntmps129
    go_wp2
    go_ret
    exact ⟨by rw [E.out]; rfl, rfl⟩
  · have E : Hid (outK fr tto key = false) := decide_eq_false (fun q => by omega)
    have d1 : decide (tto ≤ key) = false := decide_eq_false q1
    clear q0 q1
    go_enter Tryz.func129, Tryz.ntmps129
    go_wp2
    go_ret
    exact ⟨by rw [E.out]; rfl, rfl⟩
set_option maxHeartbeats 1000000 in
theorem strayCell_is (br bq : Nat) (fr tto : Int) (n0 n1 n2 : Int) (w : World) (h : StrE br bq fr tto w) :
    Calls Tryz.prog 131 #[.agg #[.int .i64 n0, .int .i64 n1, .int .i64 n2], .pointer (some ⟨bq, 0, none⟩)] w fun e w' => e = .returned (.bool (outK fr tto n0)) ∧ Below w.heap.size w w' := by
  have H : Hid (StrE br bq fr tto (w.alloc (.cells #[.int .i64 n0, .int .i64 n1, .int .i64 n2] 212))) := h.later (below_alloc _ _)
  obtain ⟨h0, _⟩ := H.out
  have hq : bq < w.heap.size := World.block_lt_of_cell? w _ h.1
  clear h
  unfold strayV at h0
  obtain ⟨r, hr⟩ : ∃ r, outK fr tto n0 = r := ⟨_, rfl⟩
  have HR : Hid (outK fr tto n0 = r) := hr
  clear hr
  go_enter Tryz.func131, Tryz.ntmps131
  go_wp2_with fail
  refine (stray1_is br fr tto n0 _ H.out.2.1 H.out.2.2).mono ?_
  rw [HR.out]
  rintro e w1 ⟨rfl, rfl⟩
  go_wp2
  go_ret
  exact ⟨by rw [HR.out]; rfl, below_alloc _ _⟩
set_option maxRecDepth 100000 in
set_option maxHeartbeats 4000000 in
theorem indexStrayCell_is (br bq : Nat) (fr tto : Int) (B n : Nat) (F : Nat → Int) (v : Value) (w : World) (h : Row w B 3 n F v) (hn : n ≤ 1048576) (hw : StrE br bq fr tto w) :
    Calls Tryz.prog 167 #[v, .func (.func 131) #[] #[.pointer (some ⟨bq, 0, none⟩)]] w fun e w' => ∃ r : Int, e = .returned (.int .i64 r) ∧ ((r = -1 ∧ ∀ i, i < n → outK fr tto (F (i * 3)) = false) ∨ (0 ≤ r ∧ ∃ i, i < n ∧ outK fr tto (F (i * 3)) = true)) ∧ Below w.heap.size w w' := by
  obtain ⟨ao, cp, rfl⟩ := h.form
  have H : Hid (Row w B 3 n F (.slice ao n cp)) := h
  have HW : Hid (StrE br bq fr tto w) := hw
  clear h hw
  go_enter Tryz.func167, Tryz.ntmps167
  go_wp2
  go_loopw [8] (fun i wr => ∃ k : Nat, k ≤ n ∧ i = .int .i64 k ∧ Hid (∀ j, j < k → outK fr tto (F (j * 3)) = false) ∧ Hid (Below w.heap.size w wr)) (fun i _ => n - (intOf i).toNat)
  case atStart => exact ⟨0, Nat.zero_le _, rfl, fun j hj => absurd hj (Nat.not_lt_zero j), Below.refl _ _⟩
  case round =>
    obtain ⟨k, hk, rfl, HS, HB⟩ := hrel
    by_cases hlt : k < n
    case neg =>
      obtain rfl : n = k := by omega
      go_wp2
      go_ret
      exact ⟨-1, rfl, Or.inl ⟨rfl, HS.out⟩, HB.out⟩
    obtain ⟨g, o, rfl, _, hg, x0, x1, x2⟩ := (H.out.later HB.out).at3 hlt
    obtain ⟨n0, N0⟩ : ∃ x, F (k * 3) = x := ⟨_, rfl⟩
    rw [N0] at x0
    obtain ⟨n1, N1⟩ : ∃ x, F (k * 3 + 1) = x := ⟨_, rfl⟩
    rw [N1] at x1
    obtain ⟨n2, N2⟩ : ∃ x, F (k * 3 + 2) = x := ⟨_, rfl⟩
    rw [N2] at x2
    obtain ⟨r, hr⟩ : ∃ r, outK fr tto n0 = r := ⟨_, rfl⟩
    have HR : Hid (outK fr tto n0 = r) := hr
    have HN : Hid (F (k * 3) = n0) := N0
    clear N0 N1 N2 hr
    cases r with
    | true =>
      go_wp2_with fail
      refine (strayCell_is br bq fr tto n0 n1 n2 _ (HW.out.later HB.out)).mono ?_
      rw [HR.out]
      rintro e w1 ⟨rfl, q1⟩
      have HB1 : Hid (Below w.heap.size w w1) := HB.out.trans (q1.mono HB.out.size)
      clear q1
      go_wp2
      go_ret
      exact ⟨k, rfl, Or.inr ⟨by omega, k, hlt, by rw [HN.out]; exact HR.out⟩, HB1.out⟩
    | false =>
      have HS1 : Hid (∀ j, j < k + 1 → outK fr tto (F (j * 3)) = false) := fun j hj => by
        by_cases q : j = k
        · subst q; rw [HN.out]; exact HR.out
        · exact HS.out j (by omega)
      go_wp2_with fail
      refine (strayCell_is br bq fr tto n0 n1 n2 _ (HW.out.later HB.out)).mono ?_
      rw [HR.out]
      rintro e w1 ⟨rfl, q1⟩
      have HB1 : Hid (Below w.heap.size w w1) := HB.out.trans (q1.mono HB.out.size)
      clear q1
      go_wp2
      go_roundw
      case rel => exact ⟨k + 1, by omega, by go_num, HS1, HB1⟩
      case measure => simp [intOf]; omega
set_option maxHeartbeats 1000000 in
theorem containsStrayCell_is (br bq : Nat) (fr tto : Int) (B n : Nat) (F : Nat → Int) (v : Value) (w : World) (h : Row w B 3 n F v) (hn : n ≤ 1048576) (hw : StrE br bq fr tto w) :
    Calls Tryz.prog 130 #[v, .func (.func 131) #[] #[.pointer (some ⟨bq, 0, none⟩)]] w fun e w' => e = .returned (.bool (decide (keepN F 3 fr (tto - 1) n ≠ n))) ∧ Below w.heap.size w w' := by
  obtain ⟨ao, cp, rfl⟩ := h.form
  have H : Hid (Row w B 3 n F (.slice ao n cp)) := h
  have HW : Hid (StrE br bq fr tto w) := hw
  clear h hw
  go_enter Tryz.func130, Tryz.ntmps130
  go_wp2_with fail
  refine (indexStrayCell_is br bq fr tto B n F _ _ H.out hn HW.out).mono ?_
  rintro e w1 ⟨r, rfl, hr, q1⟩
  have HB : Hid (Below w.heap.size w w1) := q1
  clear q1
  rcases hr with ⟨rfl, hr⟩ | ⟨h0, i, hi, hr⟩
  · have E : Hid (decide (keepN F 3 fr (tto - 1) n ≠ n) = false) := decide_eq_false (fun q => q ((keep_all n).2 (fun i hi => by have := of_decide_eq_false (hr i hi); omega)))
    clear hr
    go_wp2
    go_ret
    exact ⟨by rw [E.out]; rfl, HB.out⟩
  · have E : Hid (decide (keepN F 3 fr (tto - 1) n ≠ n) = true) := decide_eq_true (fun q => by have h1 := (keep_all n).1 q i hi; have h2 := of_decide_eq_true hr; omega)
    have d : decide ((0 : Int) ≤ r) = true := decide_eq_true h0
    clear hr h0
    go_wp2
    go_ret
    exact ⟨by rw [E.out]; rfl, HB.out⟩
set_option maxHeartbeats 1000000 in
theorem strayLock_is (br bq : Nat) (fr tto : Int) (n0 n1 n2 n3 n4 : Int) (w : World) (h : StrE br bq fr tto w) :
    Calls Tryz.prog 133 #[.agg #[.int .i64 n0, .int .i64 n1, .int .i64 n2, .int .i64 n3, .int .i64 n4], .pointer (some ⟨bq, 0, none⟩)] w fun e w' => e = .returned (.bool (outK fr tto n0)) ∧ Below w.heap.size w w' := by
  have H : Hid (StrE br bq fr tto (w.alloc (.cells #[.int .i64 n0, .int .i64 n1, .int .i64 n2, .int .i64 n3, .int .i64 n4] 162))) := h.later (below_alloc _ _)
  obtain ⟨h0, _⟩ := H.out
  have hq : bq < w.heap.size := World.block_lt_of_cell? w _ h.1
  clear h
  unfold strayV at h0
  obtain ⟨r, hr⟩ : ∃ r, outK fr tto n0 = r := ⟨_, rfl⟩
  have HR : Hid (outK fr tto n0 = r) := hr
  clear hr
  go_enter Tryz.func133, Tryz.ntmps133
  go_wp2_with fail
  refine (stray1_is br fr tto n0 _ H.out.2.1 H.out.2.2).mono ?_
  rw [HR.out]
  rintro e w1 ⟨rfl, rfl⟩
  go_wp2
  go_ret
  exact ⟨by rw [HR.out]; rfl, below_alloc _ _⟩
set_option maxRecDepth 100000 in
set_option maxHeartbeats 4000000 in
theorem indexStrayLock_is (br bq : Nat) (fr tto : Int) (B n : Nat) (F : Nat → Int) (v : Value) (w : World) (h : Row w B 5 n F v) (hn : n ≤ 1048576) (hw : StrE br bq fr tto w) :
    Calls Tryz.prog 168 #[v, .func (.func 133) #[] #[.pointer (some ⟨bq, 0, none⟩)]] w fun e w' => ∃ r : Int, e = .returned (.int .i64 r) ∧ ((r = -1 ∧ ∀ i, i < n → outK fr tto (F (i * 5)) = false) ∨ (0 ≤ r ∧ ∃ i, i < n ∧ outK fr tto (F (i * 5)) = true)) ∧ Below w.heap.size w w' := by
  obtain ⟨ao, cp, rfl⟩ := h.form
  have H : Hid (Row w B 5 n F (.slice ao n cp)) := h
  have HW : Hid (StrE br bq fr tto w) := hw
  clear h hw
  go_enter Tryz.func168, Tryz.ntmps168
  go_wp2
  go_loopw [8] (fun i wr => ∃ k : Nat, k ≤ n ∧ i = .int .i64 k ∧ Hid (∀ j, j < k → outK fr tto (F (j * 5)) = false) ∧ Hid (Below w.heap.size w wr)) (fun i _ => n - (intOf i).toNat)
  case atStart => exact ⟨0, Nat.zero_le _, rfl, fun j hj => absurd hj (Nat.not_lt_zero j), Below.refl _ _⟩
  case round =>
    obtain ⟨k, hk, rfl, HS, HB⟩ := hrel
    by_cases hlt : k < n
    case neg =>
      obtain rfl : n = k := by omega
      go_wp2
      go_ret
      exact ⟨-1, rfl, Or.inl ⟨rfl, HS.out⟩, HB.out⟩
    obtain ⟨g, o, rfl, _, hg, x0, x1, x2, x3, x4⟩ := (H.out.later HB.out).at5 hlt
    obtain ⟨n0, N0⟩ : ∃ x, F (k * 5) = x := ⟨_, rfl⟩
    rw [N0] at x0
    obtain ⟨n1, N1⟩ : ∃ x, F (k * 5 + 1) = x := ⟨_, rfl⟩
    rw [N1] at x1
    obtain ⟨n2, N2⟩ : ∃ x, F (k * 5 + 2) = x := ⟨_, rfl⟩
    rw [N2] at x2
    obtain ⟨n3, N3⟩ : ∃ x, F (k * 5 + 3) = x := ⟨_, rfl⟩
    rw [N3] at x3
    obtain ⟨n4, N4⟩ : ∃ x, F (k * 5 + 4) = x := ⟨_, rfl⟩
    rw [N4] at x4
    obtain ⟨r, hr⟩ : ∃ r, outK fr tto n0 = r := ⟨_, rfl⟩
    have HR : Hid (outK fr tto n0 = r) := hr
    have HN : Hid (F (k * 5) = n0) := N0
    clear N0 N1 N2 N3 N4 hr
    cases r with
    | true =>
      go_wp2_with fail
      refine (strayLock_is br bq fr tto n0 n1 n2 n3 n4 _ (HW.out.later HB.out)).mono ?_
      rw [HR.out]
      rintro e w1 ⟨rfl, q1⟩
      have HB1 : Hid (Below w.heap.size w w1) := HB.out.trans (q1.mono HB.out.size)
      clear q1
      go_wp2
      go_ret
      exact ⟨k, rfl, Or.inr ⟨by omega, k, hlt, by rw [HN.out]; exact HR.out⟩, HB1.out⟩
    | false =>
      have HS1 : Hid (∀ j, j < k + 1 → outK fr tto (F (j * 5)) = false) := fun j hj => by
        by_cases q : j = k
        · subst q; rw [HN.out]; exact HR.out
        · exact HS.out j (by omega)
      go_wp2_with fail
      refine (strayLock_is br bq fr tto n0 n1 n2 n3 n4 _ (HW.out.later HB.out)).mono ?_
      rw [HR.out]
      rintro e w1 ⟨rfl, q1⟩
      have HB1 : Hid (Below w.heap.size w w1) := HB.out.trans (q1.mono HB.out.size)
      clear q1
      go_wp2
      go_roundw
      case rel => exact ⟨k + 1, by omega, by go_num, HS1, HB1⟩
      case measure => simp [intOf]; omega
set_option maxHeartbeats 1000000 in
theorem containsStrayLock_is (br bq : Nat) (fr tto : Int) (B n : Nat) (F : Nat → Int) (v : Value) (w : World) (h : Row w B 5 n F v) (hn : n ≤ 1048576) (hw : StrE br bq fr tto w) :
    Calls Tryz.prog 132 #[v, .func (.func 133) #[] #[.pointer (some ⟨bq, 0, none⟩)]] w fun e w' => e = .returned (.bool (decide (keepN F 5 fr (tto - 1) n ≠ n))) ∧ Below w.heap.size w w' := by
  obtain ⟨ao, cp, rfl⟩ := h.form
  have H : Hid (Row w B 5 n F (.slice ao n cp)) := h
  have HW : Hid (StrE br bq fr tto w) := hw
  clear h hw
  go_enter Tryz.func132, Tryz.ntmps132
  go_wp2_with fail
  refine (indexStrayLock_is br bq fr tto B n F _ _ H.out hn HW.out).mono ?_
  rintro e w1 ⟨r, rfl, hr, q1⟩
  have HB : Hid (Below w.heap.size w w1) := q1
  clear q1
  rcases hr with ⟨rfl, hr⟩ | ⟨h0, i, hi, hr⟩
  · have E : Hid (decide (keepN F 5 fr (tto - 1) n ≠ n) = false) := decide_eq_false (fun q => q ((keep_all n).2 (fun i hi => by have := of_decide_eq_false (hr i hi); omega)))
    clear hr
    go_wp2
    go_ret
    exact ⟨by rw [E.out]; rfl, HB.out⟩
  · have E : Hid (decide (keepN F 5 fr (tto - 1) n ≠ n) = true) := decide_eq_true (fun q => by have h1 := (keep_all n).1 q i hi; have h2 := of_decide_eq_true hr; omega)
    have d : decide ((0 : Int) ≤ r) = true := decide_eq_true h0
    clear hr h0
    go_wp2
    go_ret
    exact ⟨by rw [E.out]; rfl, HB.out⟩
set_option maxHeartbeats 1000000 in
theorem strayWrite_is (br bq : Nat) (fr tto : Int) (n0 n1 n2 n3 : Int) (w : World) (h : StrE br bq fr tto w) :
    Calls Tryz.prog 135 #[.agg #[.int .i64 n0, .int .i64 n1, .int .i64 n2, .int .i64 n3], .pointer (some ⟨bq, 0, none⟩)] w fun e w' => e = .returned (.bool (outK fr tto n0)) ∧ Below w.heap.size w w' := by
  have H : Hid (StrE br bq fr tto (w.alloc (.cells #[.int .i64 n0, .int .i64 n1, .int .i64 n2, .int .i64 n3] 121))) := h.later (below_alloc _ _)
  obtain ⟨h0, _⟩ := H.out
  have hq : bq < w.heap.size := World.block_lt_of_cell? w _ h.1
  clear h
  unfold strayV at h0
  obtain ⟨r, hr⟩ : ∃ r, outK fr tto n0 = r := ⟨_, rfl⟩
  have HR : Hid (outK fr tto n0 = r) := hr
  clear hr
  go_enter Tryz.func135, Tryz.ntmps135
  go_wp2_with fail
  refine (stray1_is br fr tto n0 _ H.out.2.1 H.out.2.2).mono ?_
  rw [HR.out]
  rintro e w1 ⟨rfl, rfl⟩
  go_wp2
  go_ret
  exact ⟨by rw [HR.out]; rfl, below_alloc _ _⟩
set_option maxRecDepth 100000 in
set_option maxHeartbeats 4000000 in
theorem indexStrayWrite_is (br bq : Nat) (fr tto : Int) (B n : Nat) (F : Nat → Int) (v : Value) (w : World) (h : Row w B 4 n F v) (hn : n ≤ 1048576) (hw : StrE br bq fr tto w) :
    Calls Tryz.prog 169 #[v, .func (.func 135) #[] #[.pointer (some ⟨bq, 0, none⟩)]] w fun e w' => ∃ r : Int, e = .returned (.int .i64 r) ∧ ((r = -1 ∧ ∀ i, i < n → outK fr tto (F (i * 4)) = false) ∨ (0 ≤ r ∧ ∃ i, i < n ∧ outK fr tto (F (i * 4)) = true)) ∧ Below w.heap.size w w' := by
  obtain ⟨ao, cp, rfl⟩ := h.form
  have H : Hid (Row w B 4 n F (.slice ao n cp)) := h
  have HW : Hid (StrE br bq fr tto w) := hw
  clear h hw
  go_enter Tryz.func169, Tryz.ntmps169
  go_wp2
  go_loopw [8] (fun i wr => ∃ k : Nat, k ≤ n ∧ i = .int .i64 k ∧ Hid (∀ j, j < k → outK fr tto (F (j * 4)) = false) ∧ Hid (Below w.heap.size w wr)) (fun i _ => n - (intOf i).toNat)
  case atStart => exact ⟨0, Nat.zero_le _, rfl, fun j hj => absurd hj (Nat.not_lt_zero j), Below.refl _ _⟩
  case round =>
    obtain ⟨k, hk, rfl, HS, HB⟩ := hrel
    by_cases hlt : k < n
    case neg =>
      obtain rfl : n = k := by omega
      go_wp2
      go_ret
      exact ⟨-1, rfl, Or.inl ⟨rfl, HS.out⟩, HB.out⟩
    obtain ⟨g, o, rfl, _, hg, x0, x1, x2, x3⟩ := (H.out.later HB.out).at4 hlt
    obtain ⟨n0, N0⟩ : ∃ x, F (k * 4) = x := ⟨_, rfl⟩
    rw [N0] at x0
    obtain ⟨n1, N1⟩ : ∃ x, F (k * 4 + 1) = x := ⟨_, rfl⟩
    rw [N1] at x1
    obtain ⟨n2, N2⟩ : ∃ x, F (k * 4 + 2) = x := ⟨_, rfl⟩
    rw [N2] at x2
    obtain ⟨n3, N3⟩ : ∃ x, F (k * 4 + 3) = x := ⟨_, rfl⟩
    rw [N3] at x3
    obtain ⟨r, hr⟩ : ∃ r, outK fr tto n0 = r := ⟨_, rfl⟩
    have HR : Hid (outK fr tto n0 = r) := hr
    have HN : Hid (F (k * 4) = n0) := N0
    clear N0 N1 N2 N3 hr
    cases r with
    | true =>
      go_wp2_with fail
      refine (strayWrite_is br bq fr tto n0 n1 n2 n3 _ (HW.out.later HB.out)).mono ?_
      rw [HR.out]
      rintro e w1 ⟨rfl, q1⟩
      have HB1 : Hid (Below w.heap.size w w1) := HB.out.trans (q1.mono HB.out.size)
      clear q1
      go_wp2
      go_ret
      exact ⟨k, rfl, Or.inr ⟨by omega, k, hlt, by rw [HN.out]; exact HR.out⟩, HB1.out⟩
    | false =>
      have HS1 : Hid (∀ j, j < k + 1 → outK fr tto (F (j * 4)) = false) := fun j hj => by
        by_cases q : j = k
        · subst q; rw [HN.out]; exact HR.out
        · exact HS.out j (by omega)
      go_wp2_with fail
      refine (strayWrite_is br bq fr tto n0 n1 n2 n3 _ (HW.out.later HB.out)).mono ?_
      rw [HR.out]
      rintro e w1 ⟨rfl, q1⟩
      have HB1 : Hid (Below w.heap.size w w1) := HB.out.trans (q1.mono HB.out.size)
      clear q1
      go_wp2
      go_roundw
      case rel => exact ⟨k + 1, by omega, by go_num, HS1, HB1⟩
      case measure => simp [intOf]; omega
set_option maxHeartbeats 1000000 in
theorem containsStrayWrite_is (br bq : Nat) (fr tto : Int) (B n : Nat) (F : Nat → Int) (v : Value) (w : World) (h : Row w B 4 n F v) (hn : n ≤ 1048576) (hw : StrE br bq fr tto w) :
    Calls Tryz.prog 134 #[v, .func (.func 135) #[] #[.pointer (some ⟨bq, 0, none⟩)]] w fun e w' => e = .returned (.bool (decide (keepN F 4 fr (tto - 1) n ≠ n))) ∧ Below w.heap.size w w' := by
  obtain ⟨ao, cp, rfl⟩ := h.form
  have H : Hid (Row w B 4 n F (.slice ao n cp)) := h
  have HW : Hid (StrE br bq fr tto w) := hw
  clear h hw
  go_enter Tryz.func134, Tryz.ntmps134
  go_wp2_with fail
  refine (indexStrayWrite_is br bq fr tto B n F _ _ H.out hn HW.out).mono ?_
  rintro e w1 ⟨r, rfl, hr, q1⟩
  have HB : Hid (Below w.heap.size w w1) := q1
  clear q1
  rcases hr with ⟨rfl, hr⟩ | ⟨h0, i, hi, hr⟩
  · have E : Hid (decide (keepN F 4 fr (tto - 1) n ≠ n) = false) := decide_eq_false (fun q => q ((keep_all n).2 (fun i hi => by have := of_decide_eq_false (hr i hi); omega)))
    clear hr
    go_wp2
    go_ret
    exact ⟨by rw [E.out]; rfl, HB.out⟩
  · have E : Hid (decide (keepN F 4 fr (tto - 1) n ≠ n) = true) := decide_eq_true (fun q => by have h1 := (keep_all n).1 q i hi; have h2 := of_decide_eq_true hr; omega)
    have d : decide ((0 : Int) ≤ r) = true := decide_eq_true h0
    clear hr h0
    go_wp2
    go_ret
    exact ⟨by rw [E.out]; rfl, HB.out⟩
set_option maxRecDepth 100000 in
set_option maxHeartbeats 4000000 in
theorem hasStray_any (S : Sto) (v0 v1 v2 : Value) (fr tto ep : Int) (B : Nat) (w : World) (h : St w B S v0 v1 v2) (hn : S.nc ≤ 200 ∧ S.nl ≤ 200 ∧ S.nw ≤ 200) :
    Calls Tryz.prog 93 #[.agg #[v0, v1, v2], .agg #[.int .i64 fr, .int .i64 tto, .int .i64 ep]] w fun e w' => e = .returned (.bool (decide (strayS S fr tto))) ∧ Below w.heap.size w w' := by
  obtain ⟨a0, c0, a1, c1, a2, c2, rfl, rfl, rfl⟩ := h.form
  have H : Hid (St w B S (.slice a0 S.nc c0) (.slice a1 S.nl c1) (.slice a2 S.nw c2)) := h
  have HT : Hid (S.nc ≤ 1048576 ∧ S.nl ≤ 1048576 ∧ S.nw ≤ 1048576) := ⟨by omega, by omega, by omega⟩
  obtain ⟨x0, hx0⟩ : ∃ x, decide (keepN S.c 3 fr (tto - 1) S.nc ≠ S.nc) = x := ⟨_, rfl⟩
  obtain ⟨x1, hx1⟩ : ∃ x, decide (keepN S.l 5 fr (tto - 1) S.nl ≠ S.nl) = x := ⟨_, rfl⟩
  obtain ⟨x2, hx2⟩ : ∃ x, decide (keepN S.k 4 fr (tto - 1) S.nw ≠ S.nw) = x := ⟨_, rfl⟩
  have HX : Hid (decide (keepN S.c 3 fr (tto - 1) S.nc ≠ S.nc) = x0 ∧ decide (keepN S.l 5 fr (tto - 1) S.nl ≠ S.nl) = x1 ∧ decide (keepN S.k 4 fr (tto - 1) S.nw ≠ S.nw) = x2) := ⟨hx0, hx1, hx2⟩
  have HS : Hid (decide (strayS S fr tto) = (x0 || (x1 || x2))) := by
    unfold Hid
    rw [← hx0, ← hx1, ← hx2, ← Bool.decide_or, ← Bool.decide_or]
    exact decide_eq_decide.2 Iff.rfl
  clear h hn hx0 hx1 hx2
  have HE : Hid (StrE (w.heap.size + 1) (w.heap.size + 2) fr tto (((w.alloc (.cells #[.slice a0 S.nc c0, .slice a1 S.nl c1, .slice a2 S.nw c2] 126)).alloc (.cells #[.int .i64 fr, .int .i64 tto, .int .i64 ep] 155)).alloc (.cells #[strayV (w.heap.size + 1)] 105))) := by
    have h1 := ((Blk3.new (w.alloc (.cells #[.slice a0 S.nc c0, .slice a1 S.nl c1, .slice a2 S.nw c2] 126)) (.int .i64 fr) (.int .i64 tto) (.int .i64 ep) 155).alloc (.cells #[strayV (w.heap.size + 1)] 105)).1
    have h3 := World.cell?_alloc_mark ((w.alloc (.cells #[.slice a0 S.nc c0, .slice a1 S.nl c1, .slice a2 S.nw c2] 126)).alloc (.cells #[.int .i64 fr, .int .i64 tto, .int .i64 ep] 155)) #[strayV (w.heap.size + 1)] 105 (0, 0) 0
    simp only [World.size_alloc] at h1 h3
    exact ⟨h3, h1.1, h1.2.1⟩
  have HK : Hid (Blk3 (((w.alloc (.cells #[.slice a0 S.nc c0, .slice a1 S.nl c1, .slice a2 S.nw c2] 126)).alloc (.cells #[.int .i64 fr, .int .i64 tto, .int .i64 ep] 155)).alloc (.cells #[strayV (w.heap.size + 1)] 105)) w.heap.size (.slice a0 S.nc c0) (.slice a1 S.nl c1) (.slice a2 S.nw c2) ∧ Below w.heap.size w (((w.alloc (.cells #[.slice a0 S.nc c0, .slice a1 S.nl c1, .slice a2 S.nw c2] 126)).alloc (.cells #[.int .i64 fr, .int .i64 tto, .int .i64 ep] 155)).alloc (.cells #[strayV (w.heap.size + 1)] 105))) := ⟨((Blk3.new w _ _ _ _).alloc _).alloc _, ((below_alloc _ _).alloc (by simp) _).alloc (by simp; omega) _⟩
  have hst := fun (W : World) (a : Addr) => run_store Tryz.prog W a (strayV (w.heap.size + 1)) .plain rfl
  have hex : strayV (w.heap.size + 1) = .func (.func 129) #[] #[.pointer (some ⟨w.heap.size + 1, 0, none⟩)] := rfl
  rw [hex] at HE HK hst
  clear hex
  go_enter Tryz.func93, Tryz.ntmps93
  go_wp2_with fail
  obtain ⟨⟨p0, p1, p2⟩, _⟩ := HK.out.1
  refine (containsStrayCell_is (w.heap.size + 1) (w.heap.size + 2) fr tto B S.nc S.c _ _ (H.out.1.later HK.out.2) HT.out.1 HE.out).mono ?_
  rw [HX.out.1]
  rintro e w1 ⟨rfl, q1⟩
  have HE1 : Hid (StrE (w.heap.size + 1) (w.heap.size + 2) fr tto w1) := HE.out.later q1
  have HK1 : Hid (Blk3 w1 w.heap.size (.slice a0 S.nc c0) (.slice a1 S.nl c1) (.slice a2 S.nw c2) ∧ Below w.heap.size w w1) := ⟨HK.out.1.later q1, HK.out.2.trans (q1.mono HK.out.2.size)⟩
  clear q1 p0 p1 p2 HE HK
  obtain ⟨⟨p0, p1, p2⟩, _⟩ := HK1.out.1
  cases x0 with
  | true =>
    have E : Hid (decide (strayS S fr tto) = true) := HS.out
    clear HS HX
    go_wp2
    go_ret
    exact ⟨by rw [E.out]; rfl, HK1.out.2⟩
  | false =>
  go_wp2_with fail
  refine (containsStrayLock_is (w.heap.size + 1) (w.heap.size + 2) fr tto B S.nl S.l _ _ (H.out.2.1.later HK1.out.2) HT.out.2.1 HE1.out).mono ?_
  rw [HX.out.2.1]
  rintro e w2 ⟨rfl, q1⟩
  have HE2 : Hid (StrE (w.heap.size + 1) (w.heap.size + 2) fr tto w2) := HE1.out.later q1
  have HK2 : Hid (Blk3 w2 w.heap.size (.slice a0 S.nc c0) (.slice a1 S.nl c1) (.slice a2 S.nw c2) ∧ Below w.heap.size w w2) := ⟨HK1.out.1.later q1, HK1.out.2.trans (q1.mono HK1.out.2.size)⟩
  clear q1 p0 p1 p2 HE1 HK1
  obtain ⟨⟨p0, p1, p2⟩, _⟩ := HK2.out.1
  cases x1 with
  | true =>
    have E : Hid (decide (strayS S fr tto) = true) := HS.out
    clear HS HX
    go_wp2
    go_ret
    exact ⟨by rw [E.out]; rfl, HK2.out.2⟩
  | false =>
  go_wp2_with fail
  refine (containsStrayWrite_is (w.heap.size + 1) (w.heap.size + 2) fr tto B S.nw S.k _ _ (H.out.2.2.later HK2.out.2) HT.out.2.2 HE2.out).mono ?_
  rw [HX.out.2.2]
  rintro e w3 ⟨rfl, q1⟩
  have HB : Hid (Below w.heap.size w w3) := HK2.out.2.trans (q1.mono HK2.out.2.size)
  have E : Hid (decide (strayS S fr tto) = x2) := HS.out
  clear q1 HS HX HE2 HK2 p0 p1 p2
  go_wp2
  go_ret
  exact ⟨by rw [E.out]; rfl, HB.out⟩
end Go.Proofs.YtjkchhcnochjlaaGreatDoor

namespace Go.Proofs.YtjkchhcnochjlaaGreatDoor
open Go.RowKit

/-- All numbers of the first k rows. -/
def allL (m : Nat) (N : Nat → Nat) (F : Nat → Nat → Int) : Nat → List Int
  | 0 => []
  | k + 1 => allL m N F k ++ nums (F k) (N k * m)
theorem all_len (m : Nat) (N : Nat → Nat) (F : Nat → Nat → Int) : ∀ k, (allL m N F k).length = sumN N k * m
  | 0 => by simp [allL, sumN]
  | k + 1 => by
    show (allL m N F k ++ nums (F k) (N k * m)).length = (sumN N k + N k) * m
    rw [List.length_append, nums_length, all_len m N F k, Nat.add_mul]
/-- All stores as one. -/
def unionS (n : Nat) (S : Nat → Sto) : Sto := ⟨sumN (fun i => (S i).nc) n, fun p => (allL 3 (fun i => (S i).nc) (fun i => (S i).c) n).getD p 0, sumN (fun i => (S i).nl) n, fun p => (allL 5 (fun i => (S i).nl) (fun i => (S i).l) n).getD p 0, sumN (fun i => (S i).nw) n, fun p => (allL 4 (fun i => (S i).nw) (fun i => (S i).k) n).getD p 0⟩
def ApaO (u v : Value) : Prop := ∀ q, u.ownBlock = some q → v.ownBlock ≠ some q
/-- Three rows under way: they lie in block b, each is owned from block B on, and they lie apart. -/
structure Tog (w x : World) (b B : Nat) (u0 u1 u2 : Value) (n0 n1 n2 : Nat) (L0 L1 L2 : List Int) : Prop where
  below : Below w.heap.size w x
  blk : Blk3 x b u0 u1 u2
  lo : w.heap.size ≤ b ∧ b < B ∧ B ≤ x.heap.size
  o0 : OwnM x B 212 3 u0 n0 L0
  o1 : OwnM x B 162 5 u1 n1 L1
  o2 : OwnM x B 121 4 u2 n2 L2
  a01 : ApaO u0 u1
  a02 : ApaO u0 u2
  a12 : ApaO u1 u2
theorem Tog.later {w x x' : World} {b B : Nat} {u0 u1 u2 : Value} {n0 n1 n2 : Nat} {L0 L1 L2 : List Int} (h : Tog w x b B u0 u1 u2 n0 n1 n2 L0 L1 L2) (hb : Below x.heap.size x x') : Tog w x' b B u0 u1 u2 n0 n1 n2 L0 L1 L2 :=
  ⟨h.below.trans (hb.mono h.below.size), h.blk.later hb, ⟨h.lo.1, h.lo.2.1, Nat.le_trans h.lo.2.2 hb.size⟩, h.o0.later hb, h.o1.later hb, h.o2.later hb, h.a01, h.a02, h.a12⟩
theorem ApaO.symm {u v : Value} (h : ApaO u v) : ApaO v u := fun q h1 h2 => h q h2 h1
/-- A row that is apart from one that has grown. -/
theorem OwnM.past {x x' : World} {B : Nat} {e : TypeId} {m : Nat} {u v : Value} {n : Nat} {L : List Int} (h : OwnM x B e m v n L) (hg : x.grownBy x' u.ownBlock) (ha : ApaO u v) : OwnM x' B e m v n L :=
  h.keptB (fun k hk => hg.block k (h.block k hk).2 (fun q => ha k q.symm hk))
theorem ApaO.moved {x : World} {B : Nat} {e : TypeId} {m : Nat} {u u' v : Value} {n : Nat} {L : List Int} (h : ApaO u v) (hv : OwnM x B e m v n L) (ho : u'.ownBlock = u.ownBlock ∨ u'.ownBlock = some x.heap.size) : ApaO u' v := fun q h1 h2 => by
  rcases ho with e | e
  · exact h q (e ▸ h1) h2
  · rw [e] at h1
    have := (hv.block q h2).2
    simp at h1
    omega
theorem blk_past {x x' : World} {b B : Nat} {e : TypeId} {m : Nat} {u : Value} {n : Nat} {L : List Int} {a0 a1 a2 : Value} (h : Blk3 x b a0 a1 a2) (hu : OwnM x B e m u n L) (hb : b < B) (hg : x.grownBy x' u.ownBlock) : Blk3 x' b a0 a1 a2 :=
  h.kept (hg.block b h.lt (fun q => by have := (hu.block b q.symm).1; omega))
theorem below_past {w x x' : World} {B : Nat} {e : TypeId} {m : Nat} {u : Value} {n : Nat} {L : List Int} (h : Below w.heap.size w x) (hu : OwnM x B e m u n L) (hB : w.heap.size ≤ B) (hg : x.grownBy x' u.ownBlock) : Below w.heap.size w x' :=
  ⟨hg.os.trans h.os, hg.tape.trans h.tape, hg.output.trans h.output, Nat.le_trans h.size hg.size, fun i hi => (hg.block i (Nat.lt_of_lt_of_le hi h.size) (fun q => by have := (hu.block i q.symm).1; omega)).trans (h.block i hi)⟩
theorem Tog.put0 {w x x' : World} {b B : Nat} {u0 u1 u2 u : Value} {n0 n1 n2 k : Nat} {L0 L1 L2 L : List Int} (h : Tog w x b B u0 u1 u2 n0 n1 n2 L0 L1 L2) (ho : OwnM x' B 212 3 u k L) (hg : x.grownBy x' u0.ownBlock) (hat : u.ownBlock = u0.ownBlock ∨ u.ownBlock = some x.heap.size) : Tog w (x'.setCell ⟨b, 0, none⟩ u) b B u u1 u2 k n1 n2 L L1 L2 :=
  ⟨(below_past h.below h.o0 (by have := h.lo; omega) hg).setCell h.lo.1 _, (blk_past h.blk h.o0 h.lo.2.1 hg).set0 _, ⟨h.lo.1, h.lo.2.1, by have := h.lo.2.2; have := hg.size; simp [World.setCell]; omega⟩, ho.far h.lo.2.1 _, (h.o1.past hg h.a01).far h.lo.2.1 _, (h.o2.past hg h.a02).far h.lo.2.1 _, h.a01.moved h.o1 hat, h.a02.moved h.o2 hat, h.a12⟩
theorem Tog.put1 {w x x' : World} {b B : Nat} {u0 u1 u2 u : Value} {n0 n1 n2 k : Nat} {L0 L1 L2 L : List Int} (h : Tog w x b B u0 u1 u2 n0 n1 n2 L0 L1 L2) (ho : OwnM x' B 162 5 u k L) (hg : x.grownBy x' u1.ownBlock) (hat : u.ownBlock = u1.ownBlock ∨ u.ownBlock = some x.heap.size) : Tog w (x'.setCell ⟨b, 1, none⟩ u) b B u0 u u2 n0 k n2 L0 L L2 :=
  ⟨(below_past h.below h.o1 (by have := h.lo; omega) hg).setCell h.lo.1 _, (blk_past h.blk h.o1 h.lo.2.1 hg).set1 _, ⟨h.lo.1, h.lo.2.1, by have := h.lo.2.2; have := hg.size; simp [World.setCell]; omega⟩, (h.o0.past hg h.a01.symm).far h.lo.2.1 _, ho.far h.lo.2.1 _, (h.o2.past hg h.a12).far h.lo.2.1 _, (h.a01.symm.moved h.o0 hat).symm, h.a02, h.a12.moved h.o2 hat⟩
theorem Tog.put2 {w x x' : World} {b B : Nat} {u0 u1 u2 u : Value} {n0 n1 n2 k : Nat} {L0 L1 L2 L : List Int} (h : Tog w x b B u0 u1 u2 n0 n1 n2 L0 L1 L2) (ho : OwnM x' B 121 4 u k L) (hg : x.grownBy x' u2.ownBlock) (hat : u.ownBlock = u2.ownBlock ∨ u.ownBlock = some x.heap.size) : Tog w (x'.setCell ⟨b, 2, none⟩ u) b B u0 u1 u n0 n1 k L0 L1 L :=
  ⟨(below_past h.below h.o2 (by have := h.lo; omega) hg).setCell h.lo.1 _, (blk_past h.blk h.o2 h.lo.2.1 hg).set2 _, ⟨h.lo.1, h.lo.2.1, by have := h.lo.2.2; have := hg.size; simp [World.setCell]; omega⟩, (h.o0.past hg h.a02.symm).far h.lo.2.1 _, (h.o1.past hg h.a12.symm).far h.lo.2.1 _, ho.far h.lo.2.1 _, h.a01, (h.a02.symm.moved h.o0 hat).symm, (h.a12.symm.moved h.o1 hat).symm⟩
theorem apartD_apa {x : World} {B0 B1 : Nat} {R : Sto} {u0 u1 u2 : Value} (r0 : Row x B0 3 R.nc R.c u0) (r1 : Row x B1 5 R.nl R.l u1) (h01 : ApaO u0 u1) (h02 : ApaO u0 u2) (h12 : ApaO u1 u2) : ApartD R u0 u1 u2 := by
  have own : ∀ {B m n : Nat} {F : Nat → Int} {u : Value}, Row x B m n F u → 0 < n → ∃ k, u.ownBlock = some k := fun hr hn => by
    obtain ⟨ao, cp, rfl, hr⟩ := hr
    obtain ⟨g, o, rfl, _⟩ := hr hn
    exact ⟨g, rfl⟩
  refine ⟨fun h0 _ e => ?_, fun h0 _ e => ?_, fun h1 _ e => ?_⟩
  · obtain ⟨k, hk⟩ := own r0 h0
    exact h01 k hk (e ▸ hk)
  · obtain ⟨k, hk⟩ := own r0 h0
    exact h02 k hk (e ▸ hk)
  · obtain ⟨k, hk⟩ := own r1 h1
    exact h12 k hk (e ▸ hk)
set_option maxRecDepth 100000 in
set_option maxHeartbeats 8000000 in
theorem together_any (n : Nat) (S : Nat → Sto) (V : Nat → Nat → Value) (v : Value) (B : Nat) (w : World) (h : Stos w B n S V v) (hn : n ≤ 6) (hs : ∀ i, i < n → (S i).nc ≤ 200 ∧ (S i).nl ≤ 200 ∧ (S i).nw ≤ 200) :
    Calls Tryz.prog 94 #[v] w (NewSto w (unionS n S)) := by
  obtain ⟨ao, cp, rfl⟩ := h.form
  have H : Hid (Stos w B n S V (.slice ao n cp)) := h
  have HN : Hid (∀ i, i < n → (S i).nc ≤ 200 ∧ (S i).nl ≤ 200 ∧ (S i).nw ≤ 200) := hs
  clear h hs
  go_enter Tryz.func94, Tryz.ntmps94
  go_wp2
  go_loopw [8] (fun i wr => ∃ (k p0 p1 p2 : Nat) (a0 a1 a2 : Option Addr) (c0 c1 c2 : Nat), k ≤ n ∧ i = .int .i64 k ∧ Hid (p0 = sumN (fun i => (S i).nc) k ∧ p1 = sumN (fun i => (S i).nl) k ∧ p2 = sumN (fun i => (S i).nw) k) ∧ Hid (Tog w wr (w.heap.size + 1) (w.heap.size + 2) (.slice a0 p0 c0) (.slice a1 p1 c1) (.slice a2 p2 c2) p0 p1 p2 (allL 3 (fun i => (S i).nc) (fun i => (S i).c) k) (allL 5 (fun i => (S i).nl) (fun i => (S i).l) k) (allL 4 (fun i => (S i).nw) (fun i => (S i).k) k)) ∧ Hid (Blk3 wr w.heap.size (.slice none 0 0) (.slice none 0 0) (.slice none 0 0))) (fun i _ => n - (intOf i).toNat)
  case atStart =>
    refine ⟨0, 0, 0, 0, none, none, none, 0, 0, 0, Nat.zero_le _, rfl, ⟨rfl, rfl, rfl⟩, ⟨(below_alloc _ _).alloc (by simp) _, ?_, ⟨by omega, by omega, by simp⟩, OwnM.nil _ _ _ _, OwnM.nil _ _ _ _, OwnM.nil _ _ _ _, (fun q e => by cases e), (fun q e => by cases e), (fun q e => by cases e)⟩, (Blk3.new w _ _ _ _).alloc _⟩
    have := Blk3.new (w.alloc (.cells #[.slice none 0 0, .slice none 0 0, .slice none 0 0] 126)) (.slice none 0 0) (.slice none 0 0) (.slice none 0 0) 126
    rwa [World.size_alloc] at this
  case round =>
    obtain ⟨k, p0, p1, p2, a0, a1, a2, c0, c1, c2, hk, rfl, HS, HT, HR⟩ := hrel
    have q0 : p0 ≤ 1200 := by rw [HS.out.1]; exact sum_small (fun i hi => (HN.out i hi).1) hn hk
    have q1 : p1 ≤ 1200 := by rw [HS.out.2.1]; exact sum_small (fun i hi => (HN.out i hi).2.1) hn hk
    have q2 : p2 ≤ 1200 := by rw [HS.out.2.2]; exact sum_small (fun i hi => (HN.out i hi).2.2) hn hk
    by_cases hlt : k < n
    · obtain ⟨g, o, rfl, _, hg, ⟨b0, b1, b2⟩, sk⟩ := H.out.at hlt
      replace b0 := (HT.out.below.cell (p := ⟨g, o + k * 3, none⟩) hg).trans b0
      replace b1 := (HT.out.below.cell (p := ⟨g, o + k * 3 + 1, none⟩) hg).trans b1
      replace b2 := (HT.out.below.cell (p := ⟨g, o + k * 3 + 2, none⟩) hg).trans b2
      obtain ⟨i0', d0, i1', d1, i2', d2, e0, e1, e2⟩ := sk.form
      obtain ⟨n0, hn0⟩ : ∃ x, (S k).nc = x := ⟨_, rfl⟩
      obtain ⟨n1, hn1⟩ : ∃ x, (S k).nl = x := ⟨_, rfl⟩
      obtain ⟨n2, hn2⟩ : ∃ x, (S k).nw = x := ⟨_, rfl⟩
      rw [e0, hn0] at b0
      rw [e1, hn1] at b1
      rw [e2, hn2] at b2
      have SK : Hid (Row w B 3 n0 (S k).c (.slice i0' n0 d0) ∧ Row w B 5 n1 (S k).l (.slice i1' n1 d1) ∧ Row w B 4 n2 (S k).k (.slice i2' n2 d2)) := by
        rw [e0, e1, e2] at sk
        obtain ⟨h0, h1, h2⟩ := sk
        rw [hn0] at h0
        rw [hn1] at h1
        rw [hn2] at h2
        exact ⟨h0, h1, h2⟩
      have hB := HN.out k hlt
      rw [hn0, hn1, hn2] at hB
      obtain ⟨m0, m1, m2⟩ := hB
      have HS1 : Hid (p0 + n0 = sumN (fun i => (S i).nc) (k + 1) ∧ p1 + n1 = sumN (fun i => (S i).nl) (k + 1) ∧ p2 + n2 = sumN (fun i => (S i).nw) (k + 1)) := by
        refine ⟨?_, ?_, ?_⟩
        · show _ = sumN (fun i => (S i).nc) k + (S k).nc
          rw [HS.out.1, hn0]
        · show _ = sumN (fun i => (S i).nl) k + (S k).nl
          rw [HS.out.2.1, hn1]
        · show _ = sumN (fun i => (S i).nw) k + (S k).nw
          rw [HS.out.2.2, hn2]
      obtain ⟨L0, hL0⟩ : ∃ L, allL 3 (fun i => (S i).nc) (fun i => (S i).c) k = L := ⟨_, rfl⟩
      obtain ⟨L1, hL1⟩ : ∃ L, allL 5 (fun i => (S i).nl) (fun i => (S i).l) k = L := ⟨_, rfl⟩
      obtain ⟨L2, hL2⟩ : ∃ L, allL 4 (fun i => (S i).nw) (fun i => (S i).k) k = L := ⟨_, rfl⟩
      have HL1 : Hid (L0 ++ nums (S k).c (n0 * 3) = allL 3 (fun i => (S i).nc) (fun i => (S i).c) (k + 1) ∧ L1 ++ nums (S k).l (n1 * 5) = allL 5 (fun i => (S i).nl) (fun i => (S i).l) (k + 1) ∧ L2 ++ nums (S k).k (n2 * 4) = allL 4 (fun i => (S i).nw) (fun i => (S i).k) (k + 1)) := by
        rw [← hn0, ← hn1, ← hn2, ← hL0, ← hL1, ← hL2]
        exact ⟨rfl, rfl, rfl⟩
      have HT := HT.out
      rw [hL0, hL1, hL2] at HT
      clear sk e0 e1 e2 hn0 hn1 hn2 hL0 hL1 hL2 HS
      have hq : Hid (w.heap.size + 2 ≤ wr.heap.size) := HT.lo.2.2
      have NQ : Hid ((∀ q, (Value.slice a0 p0 c0).ownBlock = some q → q ≠ wr.heap.size) ∧ (∀ q, (Value.slice a1 p1 c1).ownBlock = some q → q ≠ wr.heap.size) ∧ (∀ q, (Value.slice a2 p2 c2).ownBlock = some q → q ≠ wr.heap.size)) := ⟨fun q e => by have := (HT.o0.block q e).2; omega, fun q e => by have := (HT.o1.block q e).2; omega, fun q e => by have := (HT.o2.block q e).2; omega⟩
      have TT : Hid (Tog w (wr.alloc (.cells #[.slice i0' n0 d0, .slice i1' n1 d1, .slice i2' n2 d2] 126)) (w.heap.size + 1) (w.heap.size + 2) (.slice a0 p0 c0) (.slice a1 p1 c1) (.slice a2 p2 c2) p0 p1 p2 L0 L1 L2) := HT.later (below_alloc _ _)
      have Q1 : Hid (Blk3 (wr.alloc (.cells #[.slice i0' n0 d0, .slice i1' n1 d1, .slice i2' n2 d2] 126)) wr.heap.size (.slice i0' n0 d0) (.slice i1' n1 d1) (.slice i2' n2 d2)) := Blk3.new _ _ _ _ _
      have RB : Hid (Blk3 (wr.alloc (.cells #[.slice i0' n0 d0, .slice i1' n1 d1, .slice i2' n2 d2] 126)) w.heap.size (.slice none 0 0) (.slice none 0 0) (.slice none 0 0)) := HR.out.alloc _
      clear HT HR
      go_upto_region 5 with fail
      generalize wr.alloc (.cells #[.slice i0' n0 d0, .slice i1' n1 d1, .slice i2' n2 d2] 126) = x1 at TT Q1 RB ⊢
      clear b0 b1 b2
      generalize wr.heap.size = q at hq NQ Q1 ⊢
      obtain ⟨⟨t0, t1, t2⟩, ft0, ft1, ft2⟩ := TT.out.blk
      obtain ⟨⟨s0, s1, s2⟩, _⟩ := Q1.out
      obtain ⟨i0, hi, hz0, hz1, hz2⟩ := info_parts info_Cell
      have hbs : w.heap.size + 2 ≤ x1.heap.size := TT.out.lo.2.2
      go_upto_region 6 with (at_builtin; refine wpList_appL 212 i0 (.agg #[.int .i64 0, .int .i64 0, .int .i64 0]) 3 24 rfl _ _ 122 rfl Tryz.underlying122 hi hz0 hz1 hz2 rfl (by omega) (by omega) _ (w.heap.size + 2) p0 _ (.slice a0 p0 c0) rfl TT.out.o0 B n0 _ _ rfl (SK.out.1.later TT.out.below) (by omega) hbs ?_; intro ao0 cp0 y OY GY AY; obtain ⟨⟨t0, t1, t2⟩, ft0, ft1, ft2⟩ := blk_past TT.out.blk TT.out.o0 TT.out.lo.2.1 GY)
      have TT' : Hid (Tog w (y.setCell ⟨w.heap.size + 1, 0, none⟩ (.slice ao0 (p0 + n0) cp0)) (w.heap.size + 1) (w.heap.size + 2) (.slice ao0 (p0 + n0) cp0) (.slice a1 p1 c1) (.slice a2 p2 c2) (p0 + n0) p1 p2 (L0 ++ nums (S k).c (n0 * 3)) L1 L2) := TT.out.put0 OY GY AY
      have Q1' : Hid (Blk3 (y.setCell ⟨w.heap.size + 1, 0, none⟩ (.slice ao0 (p0 + n0) cp0)) q (.slice i0' n0 d0) (.slice i1' n1 d1) (.slice i2' n2 d2)) := (Q1.out.kept (GY.block q Q1.out.lt (fun e => NQ.out.1 q e.symm rfl))).setFar (by show q ≠ w.heap.size + 1; have := hq.out; omega) _
      have RB' : Hid (Blk3 (y.setCell ⟨w.heap.size + 1, 0, none⟩ (.slice ao0 (p0 + n0) cp0)) w.heap.size (.slice none 0 0) (.slice none 0 0) (.slice none 0 0)) := (blk_past RB.out TT.out.o0 (by omega) GY).setFar (by simp) _
      generalize y.setCell ⟨w.heap.size + 1, 0, none⟩ (.slice ao0 (p0 + n0) cp0) = z0 at TT' Q1' RB' ⊢
      clear TT Q1 RB t0 t1 t2 ft0 ft1 ft2 s0 s1 s2 OY GY AY hi hz0 hz1 hz2 hbs i0
      have TT := TT'
      have Q1 := Q1'
      have RB := RB'
      clear TT' Q1' RB'
      obtain ⟨⟨t0, t1, t2⟩, ft0, ft1, ft2⟩ := TT.out.blk
      obtain ⟨⟨s0, s1, s2⟩, _⟩ := Q1.out
      obtain ⟨i0, hi, hz0, hz1, hz2⟩ := info_parts info_Lock
      have hbs : w.heap.size + 2 ≤ z0.heap.size := TT.out.lo.2.2
      go_upto_region 7 with (at_builtin; refine wpList_appL 162 i0 (.agg #[.int .i64 0, .int .i64 0, .int .i64 0, .int .i64 0, .int .i64 0]) 5 40 rfl _ _ 123 rfl Tryz.underlying123 hi hz0 hz1 hz2 rfl (by omega) (by omega) _ (w.heap.size + 2) p1 _ (.slice a1 p1 c1) rfl TT.out.o1 B n1 _ _ rfl (SK.out.2.1.later TT.out.below) (by omega) hbs ?_; intro ao1 cp1 y OY GY AY; obtain ⟨⟨t0, t1, t2⟩, ft0, ft1, ft2⟩ := blk_past TT.out.blk TT.out.o1 TT.out.lo.2.1 GY)
      have TT' : Hid (Tog w (y.setCell ⟨w.heap.size + 1, 1, none⟩ (.slice ao1 (p1 + n1) cp1)) (w.heap.size + 1) (w.heap.size + 2) (.slice ao0 (p0 + n0) cp0) (.slice ao1 (p1 + n1) cp1) (.slice a2 p2 c2) (p0 + n0) (p1 + n1) p2 (L0 ++ nums (S k).c (n0 * 3)) (L1 ++ nums (S k).l (n1 * 5)) L2) := TT.out.put1 OY GY AY
      have Q1' : Hid (Blk3 (y.setCell ⟨w.heap.size + 1, 1, none⟩ (.slice ao1 (p1 + n1) cp1)) q (.slice i0' n0 d0) (.slice i1' n1 d1) (.slice i2' n2 d2)) := (Q1.out.kept (GY.block q Q1.out.lt (fun e => NQ.out.2.1 q e.symm rfl))).setFar (by show q ≠ w.heap.size + 1; have := hq.out; omega) _
      have RB' : Hid (Blk3 (y.setCell ⟨w.heap.size + 1, 1, none⟩ (.slice ao1 (p1 + n1) cp1)) w.heap.size (.slice none 0 0) (.slice none 0 0) (.slice none 0 0)) := (blk_past RB.out TT.out.o1 (by omega) GY).setFar (by simp) _
      generalize y.setCell ⟨w.heap.size + 1, 1, none⟩ (.slice ao1 (p1 + n1) cp1) = z1 at TT' Q1' RB' ⊢
      clear TT Q1 RB t0 t1 t2 ft0 ft1 ft2 s0 s1 s2 OY GY AY hi hz0 hz1 hz2 hbs i0
      have TT := TT'
      have Q1 := Q1'
      have RB := RB'
      clear TT' Q1' RB'
      obtain ⟨⟨t0, t1, t2⟩, ft0, ft1, ft2⟩ := TT.out.blk
      obtain ⟨⟨s0, s1, s2⟩, _⟩ := Q1.out
      obtain ⟨i0, hi, hz0, hz1, hz2⟩ := info_parts info_Write
      have hbs : w.heap.size + 2 ≤ z1.heap.size := TT.out.lo.2.2
      go_upto_region 8 with (at_builtin; refine wpList_appL 121 i0 (.agg #[.int .i64 0, .int .i64 0, .int .i64 0, .int .i64 0]) 4 32 rfl _ _ 124 rfl Tryz.underlying124 hi hz0 hz1 hz2 rfl (by omega) (by omega) _ (w.heap.size + 2) p2 _ (.slice a2 p2 c2) rfl TT.out.o2 B n2 _ _ rfl (SK.out.2.2.later TT.out.below) (by omega) hbs ?_; intro ao2 cp2 y OY GY AY; obtain ⟨⟨t0, t1, t2⟩, ft0, ft1, ft2⟩ := blk_past TT.out.blk TT.out.o2 TT.out.lo.2.1 GY)
      have TT' : Hid (Tog w (y.setCell ⟨w.heap.size + 1, 2, none⟩ (.slice ao2 (p2 + n2) cp2)) (w.heap.size + 1) (w.heap.size + 2) (.slice ao0 (p0 + n0) cp0) (.slice ao1 (p1 + n1) cp1) (.slice ao2 (p2 + n2) cp2) (p0 + n0) (p1 + n1) (p2 + n2) (L0 ++ nums (S k).c (n0 * 3)) (L1 ++ nums (S k).l (n1 * 5)) (L2 ++ nums (S k).k (n2 * 4))) := TT.out.put2 OY GY AY
      have Q1' : Hid (Blk3 (y.setCell ⟨w.heap.size + 1, 2, none⟩ (.slice ao2 (p2 + n2) cp2)) q (.slice i0' n0 d0) (.slice i1' n1 d1) (.slice i2' n2 d2)) := (Q1.out.kept (GY.block q Q1.out.lt (fun e => NQ.out.2.2 q e.symm rfl))).setFar (by show q ≠ w.heap.size + 1; have := hq.out; omega) _
      have RB' : Hid (Blk3 (y.setCell ⟨w.heap.size + 1, 2, none⟩ (.slice ao2 (p2 + n2) cp2)) w.heap.size (.slice none 0 0) (.slice none 0 0) (.slice none 0 0)) := (blk_past RB.out TT.out.o2 (by omega) GY).setFar (by simp) _
      generalize y.setCell ⟨w.heap.size + 1, 2, none⟩ (.slice ao2 (p2 + n2) cp2) = z2 at TT' Q1' RB' ⊢
      clear TT Q1 RB t0 t1 t2 ft0 ft1 ft2 s0 s1 s2 OY GY AY hi hz0 hz1 hz2 hbs i0
      have TT := TT'
      have Q1 := Q1'
      have RB := RB'
      clear TT' Q1' RB'
      rw [HL1.out.1, HL1.out.2.1, HL1.out.2.2] at TT
      clear Q1 NQ hq SK HL1
      go_wp2
      go_roundw
      case rel => exact ⟨k + 1, p0 + n0, p1 + n1, p2 + n2, ao0, ao1, ao2, cp0, cp1, cp2, by omega, by go_num, HS1, TT, RB⟩
      case measure => simp [intOf]; omega
    · obtain rfl : k = n := by omega
      obtain ⟨⟨t0, t1, t2⟩, ft0, ft1, ft2⟩ := HT.out.blk
      obtain ⟨⟨r0, r1, r2⟩, f0, f1, f2⟩ := HR.out
      have HE : Hid (unionS k S = ⟨p0, fun p => (allL 3 (fun i => (S i).nc) (fun i => (S i).c) k).getD p 0, p1, fun p => (allL 5 (fun i => (S i).nl) (fun i => (S i).l) k).getD p 0, p2, fun p => (allL 4 (fun i => (S i).nw) (fun i => (S i).k) k).getD p 0⟩) := by
        unfold Hid unionS
        rw [← HS.out.1, ← HS.out.2.1, ← HS.out.2.2]
      have o0 := (HT.out.o0.own (by rw [all_len, HS.out.1])).row
      have o1 := (HT.out.o1.own (by rw [all_len, HS.out.2.1])).row
      have o2 := (HT.out.o2.own (by rw [all_len, HS.out.2.2])).row
      have HO : Hid (St wr (w.heap.size + 2) (unionS k S) (.slice a0 p0 c0) (.slice a1 p1 c1) (.slice a2 p2 c2) ∧ FreeS wr (unionS k S) (.slice a0 p0 c0) (.slice a1 p1 c1) (.slice a2 p2 c2) ∧ ApartD (unionS k S) (.slice a0 p0 c0) (.slice a1 p1 c1) (.slice a2 p2 c2)) := by
        rw [HE.out]
        exact ⟨⟨o0.1, o1.1, o2.1⟩, ⟨o0.2, o1.2, o2.2⟩, apartD_apa o0.1 o1.1 HT.out.a01 HT.out.a02 HT.out.a12⟩
      have hn0 : Hid ((unionS k S).nc = p0 ∧ (unionS k S).nl = p1 ∧ (unionS k S).nw = p2) := by rw [HE.out]; exact ⟨rfl, rfl, rfl⟩
      clear o0 o1 o2 HE HS
      unfold NewSto
      go_wp2
      refine bodyPost_ret (v := .agg #[.slice a0 p0 c0, .slice a1 p1 c1, .slice a2 p2 c2]) (by simp [results, Tryz.results94, go_sem, r0, r1, r2]) rfl ?_
      have hlo : w.heap.size < w.heap.size + 2 := by omega
      refine ⟨a0, c0, a1, c1, a2, c2, ?_, ?_, ((HT.out.below.setCell (Nat.le_refl _) _).setCell (Nat.le_refl _) _).setCell (Nat.le_refl _) _⟩
      · rw [hn0.out.1, hn0.out.2.1, hn0.out.2.2]
      · rw [hn0.out.1, hn0.out.2.1, hn0.out.2.2]
        exact ⟨(((HO.out.1.far hlo _).far hlo _).far hlo _).mono (by omega), ((HO.out.2.1.far _ _).far _ _).far _ _, HO.out.2.2⟩
end Go.Proofs.YtjkchhcnochjlaaGreatDoor

namespace Go.Proofs.YtjkchhcnochjlaaGreatDoor
section
open Go.RowKit
/-- The call's blocks: the groups that it was given. -/
def CallG (w : World) (nr : Nat) (F : Nat → Int) (n : Nat) (S : Nat → Sto) (V : Nat → Nat → Value) (B : Nat) (vr vs : Value) (x : World) : Prop := Blk2 x w.heap.size vr vs ∧ Grs x B nr F n S V vr vs ∧ Below w.heap.size w x
theorem CallG.new {w : World} {nr : Nat} {F : Nat → Int} {n : Nat} {S : Nat → Sto} {V : Nat → Nat → Value} {B : Nat} {vr vs : Value} (h : Grs w B nr F n S V vr vs) (t : TypeId) : CallG w nr F n S V B vr vs (w.alloc (.cells #[vr, vs] t)) := ⟨Blk2.new _ _ _ _, h.alloc _, below_alloc _ _⟩
theorem CallG.later {w x x' : World} {nr : Nat} {F : Nat → Int} {n : Nat} {S : Nat → Sto} {V : Nat → Nat → Value} {B : Nat} {vr vs : Value} (h : CallG w nr F n S V B vr vs x) (hb : Below x.heap.size x x') : CallG w nr F n S V B vr vs x' := ⟨h.1.later hb, h.2.1.later hb, h.2.2.trans (hb.mono h.2.2.size)⟩
def RngE7 (w : World) (gr oR k : Nat) (fr tto ep : Int) (a0 : Option Addr) (n c0 : Nat) (q : Nat) (s0 s1 s2 : Value) (x : World) : Prop :=
  Below w.heap.size w x ∧ x.cell? ⟨w.heap.size, 0, none⟩ = some (.slice a0 n c0) ∧ (x.cell? ⟨gr, oR + k * 3, none⟩ = some (.int .i64 fr) ∧ x.cell? ⟨gr, oR + k * 3 + 1, none⟩ = some (.int .i64 tto) ∧ x.cell? ⟨gr, oR + k * 3 + 2, none⟩ = some (.int .i64 ep)) ∧ x.cell? ⟨q, 0, none⟩ = some s0 ∧ x.cell? ⟨q, 1, none⟩ = some s1 ∧ x.cell? ⟨q, 2, none⟩ = some s2
set_option maxRecDepth 100000 in
set_option maxHeartbeats 8000000 in
theorem implGroupsFault_any (nr : Nat) (F : Nat → Int) (n : Nat) (S : Nat → Sto) (V : Nat → Nat → Value) (vr vs : Value) (B : Nat) (w : World) (h : Grs w B nr F n S V vr vs) (hr : nr ≤ 9223372036854775807) (hn : n ≤ 9223372036854775807) :
    Calls Tryz.prog 61 #[.agg #[vr, vs]] w fun e w' => e = .returned (.int .i64 (groupsF nr F n S)) ∧ Below w.heap.size w w' := by
  obtain ⟨a0, c0, a1, c1, rfl, rfl⟩ := h.form
  have H : Hid (CallG w nr F n S V B (.slice a0 nr c0) (.slice a1 n c1) (w.alloc (.cells #[.slice a0 nr c0, .slice a1 n c1] 42))) := CallG.new h _
  clear h
  obtain ⟨⟨p0, p1⟩, _⟩ := H.out.1
  obtain ⟨f, hf⟩ : ∃ f, rangesF nr F = f := ⟨_, rfl⟩
  have HF : Hid (rangesF nr F = f) := hf
  go_enter Tryz.func61, Tryz.ntmps61
  go_wp2_with fail
  refine (implRanges_any _ B nr F _ H.out.2.1.1 hr).mono ?_
  rw [hf]
  rintro e w1 ⟨rfl, q1⟩
  have H1 : Hid (CallG w nr F n S V B (.slice a0 nr c0) (.slice a1 n c1) w1) := H.out.later q1
  clear q1 hf p0 p1 H
  by_cases hz : f = 0
  case neg =>
    have d : (f == 0) = false := beq_eq_false_iff_ne.2 hz
    have d' : (f != 0) = true := bne_iff_ne.2 hz
    have E : Hid (groupsF nr F n S = f) := by unfold Hid groupsF; rw [HF.out, if_pos hz]
    clear hz HF
    go_wp2
    go_ret
    exact ⟨by rw [E.out]; rfl, H1.out.2.2⟩
  subst hz
  have G : Hid (Good nr F) := good_of HF.out
  obtain ⟨⟨p0, p1⟩, _⟩ := H1.out.1
  by_cases hnn : n = nr
  case neg =>
    have d : ((n : Int) != (nr : Int)) = true := bne_iff_ne.2 (by omega)
    have E : Hid (groupsF nr F n S = 1) := by unfold Hid groupsF; rw [HF.out, if_neg (by decide), if_pos hnn]
    clear HF hnn
    go_wp2
    go_ret
    exact ⟨by rw [E.out]; rfl, H1.out.2.2⟩
  have HG : Hid (groupsF nr F n S = if scan (oneF F S) n ≠ 0 then scan (oneF F S) n else if fullG n S then 2 else 0) := by unfold Hid groupsF; rw [HF.out, if_neg (by decide), if_neg (fun q => q hnn)]
  have hn6 : n ≤ 6 := by have := G.out.n6; omega
  subst hnn
  clear HF
  go_wp2
  clear p0 p1
  go_loopw [24] (fun i wr => ∃ k : Nat, k ≤ n ∧ i = .int .i64 k ∧ Hid (scan (oneF F S) k = 0) ∧ Hid (CallG w n F n S V B (.slice a0 n c0) (.slice a1 n c1) wr)) (fun i _ => n - (intOf i).toNat)
  case atStart => exact ⟨0, Nat.zero_le _, rfl, rfl, H1⟩
  case round =>
    obtain ⟨k, hk, rfl, HS, HL⟩ := hrel
    obtain ⟨⟨p0, p1⟩, _⟩ := HL.out.1
    by_cases hlt : k < n
    · obtain ⟨g, o, rfl, _, hg, ⟨b0, b1, b2⟩, sk⟩ := HL.out.2.1.2.at hlt
      obtain ⟨gr, oR, rfl, _, hgr, t0, t1, t2⟩ := HL.out.2.1.1.at3 hlt
      obtain ⟨i0', d0, i1', d1, i2', d2, e0, e1, e2⟩ := sk.form
      obtain ⟨n0, hn0⟩ : ∃ x, (S k).nc = x := ⟨_, rfl⟩
      obtain ⟨n1, hn1⟩ : ∃ x, (S k).nl = x := ⟨_, rfl⟩
      obtain ⟨n2, hn2⟩ : ∃ x, (S k).nw = x := ⟨_, rfl⟩
      rw [e0, hn0] at b0
      rw [e1, hn1] at b1
      rw [e2, hn2] at b2
      rw [e0, e1, e2, hn0, hn1, hn2] at sk
      obtain ⟨fs, hfs⟩ : ∃ x, storeF (S k) = x := ⟨_, rfl⟩
      have HFS : Hid (storeF (S k) = fs) := hfs
      have LS : Hid (St (wr.alloc (.cells #[.slice i0' n0 d0, .slice i1' n1 d1, .slice i2' n2 d2] 126)) B (S k) (.slice i0' n0 d0) (.slice i1' n1 d1) (.slice i2' n2 d2)) := sk.alloc _
      have LQ : Hid (Blk3 (wr.alloc (.cells #[.slice i0' n0 d0, .slice i1' n1 d1, .slice i2' n2 d2] 126)) wr.heap.size (.slice i0' n0 d0) (.slice i1' n1 d1) (.slice i2' n2 d2)) := Blk3.new _ _ _ _ _
      have HL1 : Hid (CallG w n F n S V B (.slice (some ⟨gr, oR, none⟩) n c0) (.slice (some ⟨g, o, none⟩) n c1) (wr.alloc (.cells #[.slice i0' n0 d0, .slice i1' n1 d1, .slice i2' n2 d2] 126))) := HL.out.later (below_alloc _ _)
      clear sk e0 e1 e2 hn0 hn1 hn2 t0 t1 t2 HL
      go_wp2_with fail
      generalize wr.alloc (.cells #[.slice i0' n0 d0, .slice i1' n1 d1, .slice i2' n2 d2] 126) = w2 at LS LQ HL1 ⊢
      generalize wr.heap.size = q at LQ ⊢
      clear b0 b1 b2 p0 p1
      refine (implFault_any (S k) _ _ _ B _ LS.out).mono ?_
      rw [hfs]
      rintro e w3 ⟨rfl, q3⟩
      have HL3 : Hid (CallG w n F n S V B (.slice (some ⟨gr, oR, none⟩) n c0) (.slice (some ⟨g, o, none⟩) n c1) w3) := HL1.out.later q3
      have LQ3 : Hid (Blk3 w3 q (.slice i0' n0 d0) (.slice i1' n1 d1) (.slice i2' n2 d2)) := LQ.out.later q3
      have LS3 : Hid (St w3 B (S k) (.slice i0' n0 d0) (.slice i1' n1 d1) (.slice i2' n2 d2)) := LS.out.later q3
      clear q3 hfs HL1 LQ LS
      by_cases hz : fs = 0
      case neg =>
        have d : (fs == 0) = false := beq_eq_false_iff_ne.2 hz
        have d' : (fs != 0) = true := bne_iff_ne.2 hz
        have E : Hid (groupsF n F n S = fs) := by
          have h1 : oneF F S k = fs := by unfold oneF; rw [HFS.out, if_pos hz]
          have h2 : scan (oneF F S) n = fs := (scan_stop HS.out (by rw [h1]; exact hz) hlt).trans h1
          unfold Hid
          rw [HG.out, h2, if_pos hz]
        clear hz HFS HG HS
        go_wp2
        go_ret
        exact ⟨by rw [E.out]; rfl, HL3.out.2.2⟩
      subst hz
      obtain ⟨gr', oR', he, _, hgr3, t0, t1, t2⟩ := HL3.out.2.1.1.at3 hlt
      simp only [Option.some.injEq, Addr.mk.injEq, and_true] at he
      obtain ⟨rfl, rfl⟩ := he
      obtain ⟨fr, hfr⟩ : ∃ x, F (k * 3) = x := ⟨_, rfl⟩
      obtain ⟨tto, hto⟩ : ∃ x, F (k * 3 + 1) = x := ⟨_, rfl⟩
      obtain ⟨ep, hep⟩ : ∃ x, F (k * 3 + 2) = x := ⟨_, rfl⟩
      rw [hfr] at t0
      rw [hto] at t1
      rw [hep] at t2
      have HFT : Hid (F (k * 3) = fr ∧ F (k * 3 + 1) = tto) := ⟨hfr, hto⟩
      clear hfr hto hep
      have Z := storeF_zero HFS.out
      have HZ : Hid ((S k).nc ≤ 200 ∧ (S k).nl ≤ 200 ∧ (S k).nw ≤ 200) := Z.1
      have RE : Hid (RngE7 w gr oR k fr tto ep (some ⟨gr, oR, none⟩) n c0 q (.slice i0' n0 d0) (.slice i1' n1 d1) (.slice i2' n2 d2) w3) := ⟨HL3.out.2.2, HL3.out.1.1.1, ⟨t0, t1, t2⟩, LQ3.out.1⟩
      clear Z t0 t1 t2
      go_wp2_with fail
      refine wp_region_held_drew (S := RngE7 w gr oR k fr tto ep (some ⟨gr, oR, none⟩) n c0 q (.slice i0' n0 d0) (.slice i1' n1 d1) (.slice i2' n2 d2)) (by kernel_rfl) ⟨below_dr RE.out.1 1, RE.out.2⟩ (fun hS => ?_)
      refine tkH 0 ?_ hS (fun wx hx => ?_) ?_; rotate_left
      · obtain ⟨_, hx0, ⟨hx1, hx2, hx3⟩, hx4, hx5, hx6⟩ := hx; go_simp; try with_reducible rfl
      refine tkH 1 ?_ hS (fun wx hx => ?_) ?_; rotate_left
      · obtain ⟨_, hx0, ⟨hx1, hx2, hx3⟩, hx4, hx5, hx6⟩ := hx; go_simp; try with_reducible rfl
      refine tkH 2 ?_ hS (fun wx hx => ?_) ?_; rotate_left
      · obtain ⟨_, hx0, ⟨hx1, hx2, hx3⟩, hx4, hx5, hx6⟩ := hx; go_simp; try with_reducible rfl
      refine tkH 3 ?_ hS (fun wx hx => ?_) ?_; rotate_left
      · obtain ⟨_, hx0, ⟨hx1, hx2, hx3⟩, hx4, hx5, hx6⟩ := hx; go_simp; try with_reducible rfl
      refine tkH 4 ?_ hS (fun wx hx => ?_) ?_; rotate_left
      · obtain ⟨_, hx0, ⟨hx1, hx2, hx3⟩, hx4, hx5, hx6⟩ := hx; go_simp; try with_reducible rfl
      refine tkH 5 ?_ hS (fun wx hx => ?_) ?_; rotate_left
      · obtain ⟨_, hx0, ⟨hx1, hx2, hx3⟩, hx4, hx5, hx6⟩ := hx; go_simp; try with_reducible rfl
      refine rdH 6 (fun K hK => ?_)
      go_simp
      go_wp2_with fail
      refine (hasStray_any (S k) _ _ _ fr tto ep B _ (LS3.out.later (below_dr (Below.refl _ _) 1)) HZ.out).mono ?_
      by_cases hst : strayS (S k) fr tto
      · rw [decide_eq_true hst]
        rintro e w4 ⟨rfl, q4⟩
        have E : Hid (groupsF n F n S = 3) := by
          have h1 : oneF F S k = 3 := by unfold oneF; rw [HFS.out, if_neg (by decide), HFT.out.1, HFT.out.2, if_pos hst]
          have h2 : scan (oneF F S) n = 3 := (scan_stop HS.out (by rw [h1]; decide) hlt).trans h1
          unfold Hid
          rw [HG.out, h2, if_pos (by decide)]
        have q4' : Below w3.heap.size w3 w4 := ⟨q4.os, q4.tape, q4.output, q4.size, q4.block⟩
        have HL4 : Hid (CallG w n F n S V B (.slice (some ⟨gr, oR, none⟩) n c0) (.slice (some ⟨g, o, none⟩) n c1) w4) := HL3.out.later q4'
        have hS' : RngE7 w gr oR k fr tto ep (some ⟨gr, oR, none⟩) n c0 q (.slice i0' n0 d0) (.slice i1' n1 d1) (.slice i2' n2 d2) w4 := ⟨HL4.out.2.2, HL4.out.1.1.1, ⟨(q4'.cell (p := ⟨gr, oR + k * 3, none⟩) hgr3).trans hS.2.2.1.1, (q4'.cell (p := ⟨gr, oR + k * 3 + 1, none⟩) hgr3).trans hS.2.2.1.2.1, (q4'.cell (p := ⟨gr, oR + k * 3 + 2, none⟩) hgr3).trans hS.2.2.1.2.2⟩, (LQ3.out.later q4').1⟩
        clear q4 q4' hst HFS HG HS
        go_wp2_with fail
        refine hK.out _ _ hS' (fun hS => ?_)
        clear hK K hS'
        refine wpAnyH_done (by kernel_rfl) ?_ _
        clear hS
        go_simp
        go_wp2
        go_ret
        exact ⟨by rw [E.out]; rfl, HL4.out.2.2⟩
      · rw [decide_eq_false hst]
        rintro e w4 ⟨rfl, q4⟩
        have HS1 : Hid (scan (oneF F S) (k + 1) = 0) := scan_go HS.out (by unfold oneF; rw [HFS.out, if_neg (by decide), HFT.out.1, HFT.out.2, if_neg hst])
        have q4' : Below w3.heap.size w3 w4 := ⟨q4.os, q4.tape, q4.output, q4.size, q4.block⟩
        have HL4 : Hid (CallG w n F n S V B (.slice (some ⟨gr, oR, none⟩) n c0) (.slice (some ⟨g, o, none⟩) n c1) w4) := HL3.out.later q4'
        have hS' : RngE7 w gr oR k fr tto ep (some ⟨gr, oR, none⟩) n c0 q (.slice i0' n0 d0) (.slice i1' n1 d1) (.slice i2' n2 d2) w4 := ⟨HL4.out.2.2, HL4.out.1.1.1, ⟨(q4'.cell (p := ⟨gr, oR + k * 3, none⟩) hgr3).trans hS.2.2.1.1, (q4'.cell (p := ⟨gr, oR + k * 3 + 1, none⟩) hgr3).trans hS.2.2.1.2.1, (q4'.cell (p := ⟨gr, oR + k * 3 + 2, none⟩) hgr3).trans hS.2.2.1.2.2⟩, (LQ3.out.later q4').1⟩
        clear q4 q4' hst HFS HS
        go_wp2_with fail
        refine hK.out _ _ hS' (fun hS => ?_)
        clear hK K hS'
        refine wpAnyH_done (by kernel_rfl) ?_ _
        clear hS
        go_simp
        go_wp2
        go_roundw
        case rel => exact ⟨k + 1, by omega, by go_num, HS1, HL4⟩
        case measure => simp [intOf]; omega
    · obtain rfl : k = n := by omega
      have HSS : Hid (∀ i, i < k → (S i).nc ≤ 200 ∧ (S i).nl ≤ 200 ∧ (S i).nw ≤ 200) := fun i hi => by
        have h1 := scan_zero HS.out i hi
        unfold oneF at h1
        split at h1
        · rename_i q; exact absurd h1 q
        · rename_i q; exact (storeF_zero (Classical.not_not.1 q)).1
      have E : Hid (groupsF k F k S = if fullG k S then 2 else 0) := by unfold Hid; rw [HG.out, HS.out, if_neg (by decide)]
      clear HS HG hlt
      go_wp2_with fail
      refine (together_any k S V _ B _ HL.out.2.1.2 hn6 HSS.out).mono ?_
      rintro e w4 ⟨x0, y0, x1, y1, x2, y2, rfl, _, q4⟩
      obtain ⟨m0, hm0⟩ : ∃ x, (unionS k S).nc = x := ⟨_, rfl⟩
      obtain ⟨m1, hm1⟩ : ∃ x, (unionS k S).nl = x := ⟨_, rfl⟩
      obtain ⟨m2, hm2⟩ : ∃ x, (unionS k S).nw = x := ⟨_, rfl⟩
      rw [hm0, hm1, hm2]
      have HFU : Hid (fullG k S ↔ (200 < m0 ∨ 200 < m1 ∨ 200 < m2)) := by rw [← hm0, ← hm1, ← hm2]; exact Iff.rfl
      have B4 : Below w.heap.size w w4 := HL.out.2.2.trans (q4.mono HL.out.2.2.size)
      have B5 : Hid (Below w.heap.size w (w4.alloc (.cells #[.slice x0 m0 y0, .slice x1 m1 y1, .slice x2 m2 y2] 126)) ∧ Blk3 (w4.alloc (.cells #[.slice x0 m0 y0, .slice x1 m1 y1, .slice x2 m2 y2] 126)) w4.heap.size (.slice x0 m0 y0) (.slice x1 m1 y1) (.slice x2 m2 y2)) := ⟨B4.trans ((below_alloc _ _).mono B4.size), Blk3.new _ _ _ _ _⟩
      clear q4 hm0 hm1 hm2 B4 p0 p1 HSS
      obtain ⟨⟨z0, z1, z2⟩, _⟩ := B5.out.2
      by_cases r0 : 200 < m0
      · have d : decide ((200 : Int) < (m0 : Int)) = true := decide_eq_true (by omega)
        have E2 : Hid (groupsF k F k S = 2) := by unfold Hid; rw [E.out, if_pos (HFU.out.2 (Or.inl r0))]
        clear r0 HFU E
        go_wp2
        go_ret
        exact ⟨by rw [E2.out]; rfl, B5.out.1⟩
      have d0 : decide ((200 : Int) < (m0 : Int)) = false := decide_eq_false (by omega)
      by_cases r1 : 200 < m1
      · have d : decide ((200 : Int) < (m1 : Int)) = true := decide_eq_true (by omega)
        have E2 : Hid (groupsF k F k S = 2) := by unfold Hid; rw [E.out, if_pos (HFU.out.2 (Or.inr (Or.inl r1)))]
        clear r0 r1 HFU E
        go_wp2
        go_ret
        exact ⟨by rw [E2.out]; rfl, B5.out.1⟩
      have d1 : decide ((200 : Int) < (m1 : Int)) = false := decide_eq_false (by omega)
      by_cases r2 : 200 < m2
      · have d : decide ((200 : Int) < (m2 : Int)) = true := decide_eq_true (by omega)
        have E2 : Hid (groupsF k F k S = 2) := by unfold Hid; rw [E.out, if_pos (HFU.out.2 (Or.inr (Or.inr r2)))]
        clear r0 r1 r2 HFU E
        go_wp2
        go_ret
        exact ⟨by rw [E2.out]; rfl, B5.out.1⟩
      have d2 : decide ((200 : Int) < (m2 : Int)) = false := decide_eq_false (by omega)
      have E2 : Hid (groupsF k F k S = 0) := by unfold Hid; rw [E.out, if_neg (fun q => by have := HFU.out.1 q; omega)]
      clear r0 r1 r2 HFU E
      go_wp2
      go_ret
      exact ⟨by rw [E2.out]; rfl, B5.out.1⟩
end

section
open Go.RowKit
section
end

section
open Go.RowKit
theorem groupsF_zero {nr : Nat} {F : Nat → Int} {n : Nat} {S : Nat → Sto} (h : groupsF nr F n S = 0) : Good nr F ∧ n = nr ∧ (∀ i, i < n → storeF (S i) = 0 ∧ ¬ strayS (S i) (F (i * 3)) (F (i * 3 + 1))) ∧ ¬ fullG n S := by
  unfold groupsF at h
  split at h
  · rename_i q; exact absurd h q
  rename_i q1
  split at h
  · exact absurd h (by decide)
  rename_i q2
  split at h
  · rename_i q; exact absurd h q
  rename_i q3
  split at h
  · exact absurd h (by decide)
  rename_i q4
  refine ⟨good_of (Classical.not_not.1 q1), Classical.not_not.1 q2, fun i hi => ?_, q4⟩
  have h1 := scan_zero (Classical.not_not.1 q3) i hi
  unfold oneF at h1
  split at h1
  · rename_i q; exact absurd h1 q
  rename_i q5
  split at h1
  · exact absurd h1 (by decide)
  rename_i q6
  exact ⟨Classical.not_not.1 q5, q6⟩
end
end
end Go.Proofs.YtjkchhcnochjlaaGreatDoor

namespace Go.Proofs.YtjkchhcnochjlaaGreatDoor
open Go.RowKit

set_option maxRecDepth 100000 in
set_option maxHeartbeats 8000000 in
theorem implWorldFault_any (nw nx bd : Int) (nr : Nat) (F : Nat → Int) (n : Nat) (S : Nat → Sto) (V : Nat → Nat → Value) (vr vs : Value) (nt : Nat) (T : Nat → Tx) (X : Nat → Value) (vt : Value) (B : Nat) (w : World) (h : Grs w B nr F n S V vr vs) (hx : Txs w B nt T X vt) (hr : nr ≤ 9223372036854775807) (hn : n ≤ 9223372036854775807) (ht : nt ≤ 9223372036854775807) :
    Calls Tryz.prog 32 #[.agg #[.int .i64 nw, .int .i64 nx, .int .i64 bd, vr, vs, vt]] w fun e w' => e = .returned (.int .i64 (worldF nw nx bd nr F n S nt T)) ∧ Below w.heap.size w w' := by
  obtain ⟨a0, c0, a1, c1, rfl, rfl⟩ := h.form
  obtain ⟨a2, c2, rfl⟩ := hx.form
  have H : Hid (LiesD (w.alloc (.cells #[.int .i64 nw, .int .i64 nx, .int .i64 bd, .slice a0 nr c0, .slice a1 n c1, .slice a2 nt c2] 45)) w.heap.size nw nx bd nr F n S V (.slice a0 nr c0) (.slice a1 n c1) nt T X (.slice a2 nt c2) ∧ Below w.heap.size w (w.alloc (.cells #[.int .i64 nw, .int .i64 nx, .int .i64 bd, .slice a0 nr c0, .slice a1 n c1, .slice a2 nt c2] 45))) := ⟨⟨Blk6.new w _ _ _ _ _ _ _, (h.mono (Nat.zero_le _)).alloc _, (hx.mono (Nat.zero_le _)).alloc _⟩, below_alloc _ _⟩
  clear h hx
  by_cases h0 : 0 ≤ nw ∧ nw ≤ 100000
  case neg =>
    have D0 : Hid (decide (0 ≤ nw ∧ nw ≤ 100000) = false) := decide_eq_false h0
    have E : Hid (worldF nw nx bd nr F n S nt T = 3) := worldF_now h0
    clear h0
    go_enter Tryz.func32, Tryz.ntmps32
    go_wp2_with fail
    refine (isNowW_is nw false D0.out _).mono ?_
    rintro e w1 ⟨rfl, hw1⟩
    obtain rfl := hw1.symm
    go_wp2
    go_ret
    exact ⟨by rw [E.out]; rfl, H.out.2⟩
  have D0 : Hid (decide (0 ≤ nw ∧ nw ≤ 100000) = true) := decide_eq_true h0
  have H0 : Hid (0 ≤ nw ∧ nw ≤ 100000) := h0
  clear h0
  obtain ⟨f1, hf1⟩ : ∃ f, oFault nx bd = f := ⟨_, rfl⟩
  have HF1 : Hid (oFault nx bd = f1) := hf1
  clear hf1
  go_enter Tryz.func32, Tryz.ntmps32
  go_wp2_with fail
  refine (isNowW_is nw true D0.out _).mono ?_
  rintro e w1 ⟨rfl, hw1⟩
  obtain rfl := hw1.symm
  go_wp2_with fail
  refine (implOracleFault_any nx bd _).mono ?_
  rw [HF1.out]
  rintro e w2 ⟨rfl, hw2⟩
  have H2 : Hid (LiesD w2 w.heap.size nw nx bd nr F n S V (.slice a0 nr c0) (.slice a1 n c1) nt T X (.slice a2 nt c2) ∧ Below w.heap.size w w2) := by
    rw [hw2]
    exact ⟨H.out.1.later (below_alloc _ _), H.out.2.alloc (by have := H.out.2.size; omega) _⟩
  clear hw2 H
  by_cases hz1 : f1 = 0
  case neg =>
    have d : (f1 != 0) = true := bne_iff_ne.2 hz1
    have E : Hid (worldF nw nx bd nr F n S nt T = f1) := (worldF_oracle H0.out (by rw [HF1.out]; exact hz1)).trans HF1.out
    clear hz1
    go_wp2
    go_ret
    exact ⟨by rw [E.out]; rfl, H2.out.2⟩
  subst hz1
  obtain ⟨f2, hf2⟩ : ∃ f, groupsF nr F n S = f := ⟨_, rfl⟩
  have HF2 : Hid (groupsF nr F n S = f2) := hf2
  clear hf2
  obtain ⟨⟨⟨p0, p1, p2, p3, p4, p5⟩, _⟩, _⟩ := H2.out.1
  go_wp2_with fail
  refine (implGroupsFault_any nr F n S V _ _ 0 _ H2.out.1.2.1 hr hn).mono ?_
  rw [HF2.out]
  rintro e w3 ⟨rfl, q3⟩
  have H3 : Hid (LiesD w3 w.heap.size nw nx bd nr F n S V (.slice a0 nr c0) (.slice a1 n c1) nt T X (.slice a2 nt c2) ∧ Below w.heap.size w w3) := ⟨H2.out.1.later q3, H2.out.2.trans (q3.mono H2.out.2.size)⟩
  clear q3 H2 p0 p1 p2 p3 p4 p5
  by_cases hz2 : f2 = 0
  case neg =>
    have d : (f2 != 0) = true := bne_iff_ne.2 hz2
    have E : Hid (worldF nw nx bd nr F n S nt T = f2) := (worldF_groups H0.out HF1.out (by rw [HF2.out]; exact hz2)).trans HF2.out
    clear hz2
    go_wp2
    go_ret
    exact ⟨by rw [E.out]; rfl, H3.out.2⟩
  subst hz2
  obtain ⟨⟨⟨p0, p1, p2, p3, p4, p5⟩, _⟩, _⟩ := H3.out.1
  by_cases h16 : 16 < nt
  · have d : decide ((nt : Int) > 16) = true := decide_eq_true (by omega)
    have E : Hid (worldF nw nx bd nr F n S nt T = 2) := worldF_many H0.out HF1.out HF2.out h16
    go_wp2
    go_ret
    exact ⟨by rw [E.out]; rfl, H3.out.2⟩
  have d : decide ((nt : Int) > 16) = false := decide_eq_false (by omega)
  have EW : Hid (worldF nw nx bd nr F n S nt T = scan (placeF nx T) nt) := worldF_txns H0.out HF1.out HF2.out h16
  have hn16 : nt ≤ 16 := by omega
  clear h16 HF1 HF2 H0 ht
  go_wp2
  clear p0 p1 p2 p3 p4 p5 d
  go_loopw [30] (fun i wr => ∃ k : Nat, k ≤ nt ∧ i = .int .i64 k ∧ Hid (scan (placeF nx T) k = 0) ∧ Hid (LiesD wr w.heap.size nw nx bd nr F n S V (.slice a0 nr c0) (.slice a1 n c1) nt T X (.slice a2 nt c2) ∧ Below w.heap.size w wr)) (fun i _ => nt - (intOf i).toNat)
  case atStart => exact ⟨0, Nat.zero_le _, rfl, rfl, H3⟩
  case round =>
    clear H3
    obtain ⟨k, hk, rfl, HS, HB⟩ := hrel
    by_cases hlt : k < nt
    case neg =>
      obtain rfl : k = nt := by omega
      have E : Hid (worldF nw nx bd nr F n S k T = 0) := EW.out.trans HS.out
      go_wp2
      go_ret
      exact ⟨by rw [E.out]; rfl, HB.out.2⟩
    obtain ⟨⟨⟨p0, p1, p2, p3, p4, p5⟩, _⟩, _⟩ := HB.out.1
    obtain ⟨f, hf⟩ : ∃ f, placeF nx T k = f := ⟨_, rfl⟩
    have HF : Hid (placeF nx T k = f) := hf
    clear hf
    go_wp2_with fail
    refine (implPlace_any nw nx bd _ _ nt T X _ k _ HB.out.1.2.2 hlt hn16).mono ?_
    rw [HF.out]
    rintro e w4 ⟨rfl, q4⟩
    have H4 : Hid (LiesD w4 w.heap.size nw nx bd nr F n S V (.slice a0 nr c0) (.slice a1 n c1) nt T X (.slice a2 nt c2) ∧ Below w.heap.size w w4) := ⟨HB.out.1.later q4, HB.out.2.trans (q4.mono HB.out.2.size)⟩
    clear q4 HB p0 p1 p2 p3 p4 p5
    by_cases hz : f = 0
    case neg =>
      have d' : (f != 0) = true := bne_iff_ne.2 hz
      have E : Hid (worldF nw nx bd nr F n S nt T = f) := EW.out.trans ((scan_stop HS.out (by rw [HF.out]; exact hz) hlt).trans HF.out)
      clear hz HF HS EW
      go_wp2
      go_ret
      exact ⟨by rw [E.out]; rfl, H4.out.2⟩
    subst hz
    have HS1 : Hid (scan (placeF nx T) (k + 1) = 0) := scan_go HS.out HF.out
    clear HS HF
    go_wp2
    go_roundw
    case rel => exact ⟨k + 1, by omega, by go_num, HS1, H4⟩
    case measure => simp [intOf]; omega
end Go.Proofs.YtjkchhcnochjlaaGreatDoor

namespace Go.Proofs.YtjkchhcnochjlaaGreatDoor
open Go.RowKit

theorem NewWd.rows {w w' : World} {nw nx bd : Int} {nr : Nat} {F : Nat → Int} {n : Nat} {S : Nat → Sto} {nt : Nat} {T : Nat → Tx} {e : Ending} (h : NewWd w nw nx bd nr F n S nt T e w') :
    ∃ ra rc g U gt Y, e = .returned (.agg #[.int .i64 nw, .int .i64 nx, .int .i64 bd, .slice ra nr rc, .slice (some ⟨g, 0, none⟩) n n, .slice (some ⟨gt, 0, none⟩) nt nt]) ∧ Grs w' 0 nr F n S U (.slice ra nr rc) (.slice (some ⟨g, 0, none⟩) n n) ∧ Txs w' 0 nt T Y (.slice (some ⟨gt, 0, none⟩) nt nt) ∧ Below w.heap.size w w' := by
  obtain ⟨ra, rc, g, U, z, gt, Y, zt, rfl, hF, ⟨_, hgt, hfil, hfin, _⟩, hb⟩ := h
  refine ⟨ra, rc, g, U, gt, Y, rfl, hF.grs.mono (Nat.zero_le _), ⟨⟨_, _, rfl, fun _ => ⟨gt, 0, rfl, Nat.zero_le _, hgt, fun i hi j hj => ?_⟩⟩, fun i hi => ⟨(hfin i hi).1.1.mono (Nat.zero_le _), (hfin i hi).1.2.2⟩⟩, hb⟩
  rw [Nat.zero_add]
  exact hfil.cell (Nat.le_refl _) hi hj
end Go.Proofs.YtjkchhcnochjlaaGreatDoor

namespace Go.Proofs.YtjkchhcnochjlaaGreatDoor
open Go.RowKit

/-- A run's place, time, reply and value are within their bounds. -/
def Fits (nx : Int) (nt : Nat) (pl ts rp vl : Int) : Prop := (-1 ≤ pl ∧ pl ≤ (nt : Int) - 1) ∧ (1 ≤ ts ∧ ts ≤ nx - 1) ∧ (0 ≤ rp ∧ rp ≤ 10) ∧ 0 ≤ vl ∧ vl ≤ 9999
instance (nx : Int) (nt : Nat) (pl ts rp vl : Int) : Decidable (Fits nx nt pl ts rp vl) := by unfold Fits; infer_instance
/-- The fault of one run. -/
def runF (nx : Int) (nt : Nat) (R : Nat → Int) (i : Nat) : Int := if opF (R (i * 10)) (R (i * 10 + 1)) (R (i * 10 + 2)) (R (i * 10 + 3)) (R (i * 10 + 4)) (R (i * 10 + 5)) ≠ 0 then opF (R (i * 10)) (R (i * 10 + 1)) (R (i * 10 + 2)) (R (i * 10 + 3)) (R (i * 10 + 4)) (R (i * 10 + 5)) else if Fits nx nt (R (i * 10 + 6)) (R (i * 10 + 7)) (R (i * 10 + 8)) (R (i * 10 + 9)) then 0 else 3
theorem runF_op {nx : Int} {nt : Nat} {R : Nat → Int} {i : Nat} {f : Int} (h : opF (R (i * 10)) (R (i * 10 + 1)) (R (i * 10 + 2)) (R (i * 10 + 3)) (R (i * 10 + 4)) (R (i * 10 + 5)) = f) (hf : f ≠ 0) : runF nx nt R i = f := by unfold runF; rw [h, if_pos hf]
theorem runF_no {nx : Int} {nt : Nat} {R : Nat → Int} {i : Nat} (h : opF (R (i * 10)) (R (i * 10 + 1)) (R (i * 10 + 2)) (R (i * 10 + 3)) (R (i * 10 + 4)) (R (i * 10 + 5)) = 0) (hf : ¬ Fits nx nt (R (i * 10 + 6)) (R (i * 10 + 7)) (R (i * 10 + 8)) (R (i * 10 + 9))) : runF nx nt R i = 3 := by unfold runF; rw [h, if_neg (by decide), if_neg hf]
theorem runF_ok {nx : Int} {nt : Nat} {R : Nat → Int} {i : Nat} (h : opF (R (i * 10)) (R (i * 10 + 1)) (R (i * 10 + 2)) (R (i * 10 + 3)) (R (i * 10 + 4)) (R (i * 10 + 5)) = 0) (hf : Fits nx nt (R (i * 10 + 6)) (R (i * 10 + 7)) (R (i * 10 + 8)) (R (i * 10 + 9))) : runF nx nt R i = 0 := by unfold runF; rw [h, if_neg (by decide), if_pos hf]
/-- The fault of a file system. -/
noncomputable def fsW (nw nx bd : Int) (nr : Nat) (F : Nat → Int) (n : Nat) (S : Nat → Sto) (nt : Nat) (T : Nat → Tx) (nq : Nat) (R : Nat → Int) : Int :=
  if worldF nw nx bd nr F n S nt T ≠ 0 then worldF nw nx bd nr F n S nt T else if 30 < nq then 2 else scan (runF nx nt R) nq
section
variable {nw nx bd : Int} {nr : Nat} {F : Nat → Int} {n : Nat} {S : Nat → Sto} {nt : Nat} {T : Nat → Tx} {nq : Nat} {R : Nat → Int}
theorem fsW_world {f : Int} (h : worldF nw nx bd nr F n S nt T = f) (hf : f ≠ 0) : fsW nw nx bd nr F n S nt T nq R = f := by unfold fsW; rw [h, if_pos hf]
theorem fsW_many (h : worldF nw nx bd nr F n S nt T = 0) (h2 : 30 < nq) : fsW nw nx bd nr F n S nt T nq R = 2 := by unfold fsW; rw [h, if_neg (by decide), if_pos h2]
theorem fsW_runs (h : worldF nw nx bd nr F n S nt T = 0) (h2 : ¬ 30 < nq) : fsW nw nx bd nr F n S nt T nq R = scan (runF nx nt R) nq := by unfold fsW; rw [h, if_neg (by decide), if_neg h2]
theorem fsW_zero (h : fsW nw nx bd nr F n S nt T nq R = 0) : worldF nw nx bd nr F n S nt T = 0 ∧ nq ≤ 30 ∧ ∀ i, i < nq → runF nx nt R i = 0 := by
  by_cases hw : worldF nw nx bd nr F n S nt T = 0
  · by_cases h2 : 30 < nq
    · rw [fsW_many hw h2] at h
      exact absurd h (by decide)
    · exact ⟨hw, by omega, scan_zero ((fsW_runs hw h2).symm.trans h)⟩
  · exact absurd ((fsW_world rfl hw).symm.trans h) hw
theorem runF_zero {i : Nat} (h : runF nx nt R i = 0) : opF (R (i * 10)) (R (i * 10 + 1)) (R (i * 10 + 2)) (R (i * 10 + 3)) (R (i * 10 + 4)) (R (i * 10 + 5)) = 0 ∧ Fits nx nt (R (i * 10 + 6)) (R (i * 10 + 7)) (R (i * 10 + 8)) (R (i * 10 + 9)) := by
  by_cases ho : opF (R (i * 10)) (R (i * 10 + 1)) (R (i * 10 + 2)) (R (i * 10 + 3)) (R (i * 10 + 4)) (R (i * 10 + 5)) = 0
  · by_cases hf : Fits nx nt (R (i * 10 + 6)) (R (i * 10 + 7)) (R (i * 10 + 8)) (R (i * 10 + 9))
    · exact ⟨ho, hf⟩
    · rw [runF_no ho hf] at h
      exact absurd h (by decide)
  · exact absurd ((runF_op rfl ho).symm.trans h) ho
theorem worldF_zero (h : worldF nw nx bd nr F n S nt T = 0) : (0 ≤ nw ∧ nw ≤ 100000) ∧ oFault nx bd = 0 ∧ groupsF nr F n S = 0 ∧ nt ≤ 16 ∧ scan (placeF nx T) nt = 0 := by
  by_cases h0 : 0 ≤ nw ∧ nw ≤ 100000
  · by_cases h1 : oFault nx bd = 0
    · by_cases h2 : groupsF nr F n S = 0
      · by_cases h3 : 16 < nt
        · rw [worldF_many h0 h1 h2 h3] at h
          exact absurd h (by decide)
        · exact ⟨h0, h1, h2, by omega, (worldF_txns h0 h1 h2 h3).symm.trans h⟩
      · exact absurd ((worldF_groups h0 h1 h2).symm.trans h) h2
    · exact absurd ((worldF_oracle h0 h1).symm.trans h) h1
  · rw [worldF_now h0] at h
    exact absurd h (by decide)
end
/-- A file system that lies in block b. -/
def LiesF (w : World) (b : Nat) (nw nx bd : Int) (nr : Nat) (F : Nat → Int) (n : Nat) (S : Nat → Sto) (V : Nat → Nat → Value) (vr vs : Value) (nt : Nat) (T : Nat → Tx) (X : Nat → Value) (vt : Value) (nq : Nat) (R : Nat → Int) (vq : Value) : Prop := Blk7F w b (.int .i64 nw) (.int .i64 nx) (.int .i64 bd) vr vs vt vq ∧ Grs w 0 nr F n S V vr vs ∧ Txs w 0 nt T X vt ∧ Row w 0 10 nq R vq
theorem LiesF.later {w w' : World} {b : Nat} {nw nx bd : Int} {nr : Nat} {F : Nat → Int} {n : Nat} {S : Nat → Sto} {V : Nat → Nat → Value} {vr vs : Value} {nt : Nat} {T : Nat → Tx} {X : Nat → Value} {vt : Value} {nq : Nat} {R : Nat → Int} {vq : Value} (h : LiesF w b nw nx bd nr F n S V vr vs nt T X vt nq R vq) (hb : Below w.heap.size w w') : LiesF w' b nw nx bd nr F n S V vr vs nt T X vt nq R vq := ⟨h.1.later hb, h.2.1.later hb, h.2.2.1.later hb, h.2.2.2.later hb⟩
theorem LiesF.world {w : World} {b : Nat} {nw nx bd : Int} {nr : Nat} {F : Nat → Int} {n : Nat} {S : Nat → Sto} {V : Nat → Nat → Value} {vr vs : Value} {nt : Nat} {T : Nat → Tx} {X : Nat → Value} {vt : Value} {nq : Nat} {R : Nat → Int} {vq : Value} (h : LiesF w b nw nx bd nr F n S V vr vs nt T X vt nq R vq) : LiesD w b nw nx bd nr F n S V vr vs nt T X vt := by
  obtain ⟨⟨⟨h0, h1, h2, h3, h4, h5, _⟩, f0, f1, f2, f3, f4, f5, _⟩, hg, ht, _⟩ := h
  exact ⟨⟨⟨h0, h1, h2, h3, h4, h5⟩, f0, f1, f2, f3, f4, f5⟩, hg, ht⟩
/-- What a region over a run and its file system stands on. -/
def S15 (w0 : World) (b g : Nat) (nx : Int) (vt : Value) (x6 x7 x8 x9 : Int) (X : World) : Prop := (X.cell? ⟨b, 1, none⟩ = some (.int .i64 nx) ∧ X.cell? ⟨b, 5, none⟩ = some vt ∧ X.cell? ⟨g, 6, none⟩ = some (.int .i64 x6) ∧ X.cell? ⟨g, 7, none⟩ = some (.int .i64 x7) ∧ X.cell? ⟨g, 8, none⟩ = some (.int .i64 x8) ∧ X.cell? ⟨g, 9, none⟩ = some (.int .i64 x9)) ∧ Below w0.heap.size w0 X

end Go.Proofs.YtjkchhcnochjlaaGreatDoor

namespace Go.Proofs.YtjkchhcnochjlaaGreatDoor
open Go.RowKit

theorem wrap_id15 {a : Int} (h0 : -1 ≤ a) (h1 : a ≤ 100000) : IntKind.i64.wrap a = a := by simp [IntKind.wrap, IntKind.bits, IntKind.signed]; omega
set_option maxRecDepth 100000 in
set_option maxHeartbeats 2000000 in
theorem l15Fault_any (b : Nat) (nw nx bd : Int) (nr : Nat) (F : Nat → Int) (n : Nat) (S : Nat → Sto) (V : Nat → Nat → Value) (vr vs : Value) (nt : Nat) (T : Nat → Tx) (X : Nat → Value) (vt : Value) (nq : Nat) (R : Nat → Int) (vq : Value) (w : World) (h : LiesF w b nw nx bd nr F n S V vr vs nt T X vt nq R vq) (hr : nr ≤ 9223372036854775807) (hn : n ≤ 9223372036854775807) (hnt : nt ≤ 9223372036854775807) (hnq : nq ≤ 9223372036854775807) (hm : ∀ i, i < nt → (T i).m ≤ 9223372036854775807) :
    Calls Tryz.prog 12 #[.pointer (some ⟨b, 0, none⟩)] w fun e w' => e = .returned (.int .i64 (fsW nw nx bd nr F n S nt T nq R)) ∧ Below w.heap.size w w' := by
  obtain ⟨a0, c0, a1, c1, rfl, rfl⟩ := h.2.1.form
  obtain ⟨a2, c2, rfl⟩ := h.2.2.1.form
  obtain ⟨a3, c3, rfl⟩ := h.2.2.2.form
  have H : Hid (LiesF w b nw nx bd nr F n S V (.slice a0 nr c0) (.slice a1 n c1) nt T X (.slice a2 nt c2) nq R (.slice a3 nq c3)) := h
  have HM : Hid (∀ i, i < nt → (T i).m ≤ 9223372036854775807) := hm
  clear h hm
  obtain ⟨f, hf⟩ : ∃ f, worldF nw nx bd nr F n S nt T = f := ⟨_, rfl⟩
  have HF : Hid (worldF nw nx bd nr F n S nt T = f) := hf
  clear hf
  go_enter Tryz.func12, Tryz.ntmps12
  go_wp2_with fail
  refine (l10Fault_any b nw nx bd nr F n S V _ _ nt T X _ _ H.out.world hr hn hnt HM.out).mono ?_
  rw [HF.out]
  rintro e w1 ⟨rfl, q1⟩
  have B1 : Hid (Below w.heap.size w w1) := q1
  clear q1
  by_cases hz : f = 0
  case neg =>
    have d' : (f != 0) = true := bne_iff_ne.2 hz
    have E : Hid (fsW nw nx bd nr F n S nt T nq R = f) := fsW_world HF.out hz
    clear hz HF
    go_wp2
    go_ret
    exact ⟨by rw [E.out]; rfl, B1.out⟩
  subst hz
  obtain ⟨⟨p0, p1, p2, p3, p4, p5, p6⟩, _⟩ := (H.out.later B1.out).1
  by_cases h30 : 30 < nq
  · have d : decide ((30 : Int) < (nq : Int)) = true := decide_eq_true (by omega)
    have E : Hid (fsW nw nx bd nr F n S nt T nq R = 2) := fsW_many HF.out h30
    clear h30 HF
    go_wp2
    go_ret
    exact ⟨by rw [E.out]; rfl, B1.out⟩
  have d : decide ((30 : Int) < (nq : Int)) = false := decide_eq_false (by omega)
  have EW : Hid (fsW nw nx bd nr F n S nt T nq R = scan (runF nx nt R) nq) := fsW_runs HF.out h30
  have HZ : Hid (nt ≤ 16 ∧ 1 ≤ nx ∧ nx ≤ 100000) := by
    have z := worldF_zero HF.out
    have y := oFault_zero z.2.1
    exact ⟨z.2.2.2.1, by omega⟩
  have hn30 : nq ≤ 30 := by omega
  clear h30 HF
  go_wp2_with fail
  clear p0 p1 p2 p3 p4 p5 p6 d
  go_loopw [4] (fun i wr => ∃ k : Nat, k ≤ nq ∧ i = .int .i64 k ∧ Hid (scan (runF nx nt R) k = 0) ∧ Hid (Below w.heap.size w wr)) (fun i _ => nq - (intOf i).toNat)
  case atStart => exact ⟨0, Nat.zero_le _, rfl, rfl, B1⟩
  case round =>
    clear B1
    obtain ⟨k, hk, rfl, HS, HB⟩ := hrel
    have LR : Hid (LiesF wr b nw nx bd nr F n S V (.slice a0 nr c0) (.slice a1 n c1) nt T X (.slice a2 nt c2) nq R (.slice a3 nq c3)) := H.out.later HB.out
    obtain ⟨⟨p0, p1, p2, p3, p4, p5, p6⟩, _⟩ := LR.out.1
    by_cases hlt : k < nq
    case neg =>
      obtain rfl : k = nq := by omega
      have E : Hid (fsW nw nx bd nr F n S nt T k R = 0) := EW.out.trans HS.out
      go_wp2
      go_ret
      exact ⟨by rw [E.out]; rfl, HB.out⟩
    obtain ⟨g, o, rfl, _, hg, y0, y1, y2, y3, y4, y5, y6, y7, y8, y9⟩ := LR.out.2.2.2.at10 hlt
    obtain ⟨x0, hx0⟩ : ∃ x, R (k * 10) = x := ⟨_, rfl⟩
    rw [hx0] at y0
    obtain ⟨x1, hx1⟩ : ∃ x, R (k * 10 + 1) = x := ⟨_, rfl⟩
    rw [hx1] at y1
    obtain ⟨x2, hx2⟩ : ∃ x, R (k * 10 + 2) = x := ⟨_, rfl⟩
    rw [hx2] at y2
    obtain ⟨x3, hx3⟩ : ∃ x, R (k * 10 + 3) = x := ⟨_, rfl⟩
    rw [hx3] at y3
    obtain ⟨x4, hx4⟩ : ∃ x, R (k * 10 + 4) = x := ⟨_, rfl⟩
    rw [hx4] at y4
    obtain ⟨x5, hx5⟩ : ∃ x, R (k * 10 + 5) = x := ⟨_, rfl⟩
    rw [hx5] at y5
    obtain ⟨x6, hx6⟩ : ∃ x, R (k * 10 + 6) = x := ⟨_, rfl⟩
    rw [hx6] at y6
    obtain ⟨x7, hx7⟩ : ∃ x, R (k * 10 + 7) = x := ⟨_, rfl⟩
    rw [hx7] at y7
    obtain ⟨x8, hx8⟩ : ∃ x, R (k * 10 + 8) = x := ⟨_, rfl⟩
    rw [hx8] at y8
    obtain ⟨x9, hx9⟩ : ∃ x, R (k * 10 + 9) = x := ⟨_, rfl⟩
    rw [hx9] at y9
    have HX : Hid (R (k * 10) = x0 ∧ R (k * 10 + 1) = x1 ∧ R (k * 10 + 2) = x2 ∧ R (k * 10 + 3) = x3 ∧ R (k * 10 + 4) = x4 ∧ R (k * 10 + 5) = x5 ∧ R (k * 10 + 6) = x6 ∧ R (k * 10 + 7) = x7 ∧ R (k * 10 + 8) = x8 ∧ R (k * 10 + 9) = x9) := ⟨hx0, hx1, hx2, hx3, hx4, hx5, hx6, hx7, hx8, hx9⟩
    clear hx0 hx1 hx2 hx3 hx4 hx5 hx6 hx7 hx8 hx9
    obtain ⟨f, hf⟩ : ∃ f, opF x0 x1 x2 x3 x4 x5 = f := ⟨_, rfl⟩
    have HF : Hid (opF x0 x1 x2 x3 x4 x5 = f) := hf
    clear hf
    have HO : Hid (opF (R (k * 10)) (R (k * 10 + 1)) (R (k * 10 + 2)) (R (k * 10 + 3)) (R (k * 10 + 4)) (R (k * 10 + 5)) = f) := by
      obtain ⟨e0, e1, e2, e3, e4, e5, e6, e7, e8, e9⟩ := HX.out
      show opF (R (k * 10)) (R (k * 10 + 1)) (R (k * 10 + 2)) (R (k * 10 + 3)) (R (k * 10 + 4)) (R (k * 10 + 5)) = f
      rw [e0, e1, e2, e3, e4, e5]
      exact HF.out
    have HFT : Hid (Fits nx nt (R (k * 10 + 6)) (R (k * 10 + 7)) (R (k * 10 + 8)) (R (k * 10 + 9)) ↔ Fits nx nt x6 x7 x8 x9) := by
      obtain ⟨e0, e1, e2, e3, e4, e5, e6, e7, e8, e9⟩ := HX.out
      show Fits nx nt (R (k * 10 + 6)) (R (k * 10 + 7)) (R (k * 10 + 8)) (R (k * 10 + 9)) ↔ _
      rw [e6, e7, e8, e9]
    have K0 : Hid (Blk10 (wr.alloc (.cells #[.int .i64 x0, .int .i64 x1, .int .i64 x2, .int .i64 x3, .int .i64 x4, .int .i64 x5, .int .i64 x6, .int .i64 x7, .int .i64 x8, .int .i64 x9] 65)) wr.heap.size (.int .i64 x0) (.int .i64 x1) (.int .i64 x2) (.int .i64 x3) (.int .i64 x4) (.int .i64 x5) (.int .i64 x6) (.int .i64 x7) (.int .i64 x8) (.int .i64 x9)) := Blk10.new wr _ _ _ _ _ _ _ _ _ _ _
    go_wp2_with fail
    refine (specFsOp_any x0 x1 x2 x3 x4 x5 _).mono ?_
    rw [HF.out]
    rintro e w2 ⟨rfl, q2⟩
    have B2 : Hid (Below w.heap.size w w2) := (HB.out.alloc HB.out.size _).trans (q2.mono (by simp; have := HB.out.size; omega))
    have K2 : Hid (Blk10 w2 wr.heap.size (.int .i64 x0) (.int .i64 x1) (.int .i64 x2) (.int .i64 x3) (.int .i64 x4) (.int .i64 x5) (.int .i64 x6) (.int .i64 x7) (.int .i64 x8) (.int .i64 x9)) := K0.out.later q2
    clear q2 HB LR K0 p0 p1 p2 p3 p4 p5 p6 y0 y1 y2 y3 y4 y5 y6 y7 y8 y9
    by_cases hz : f = 0
    case neg =>
      have d' : (f != 0) = true := bne_iff_ne.2 hz
      have E : Hid (fsW nw nx bd nr F n S nt T nq R = f) := by
        have h1 : runF nx nt R k = f := runF_op HO.out hz
        exact EW.out.trans ((scan_stop HS.out (by rw [h1]; exact hz) hlt).trans h1)
      clear hz HF HS EW
      go_wp2
      go_ret
      exact ⟨by rw [E.out]; rfl, B2.out⟩
    subst hz
    have hnt16 : nt ≤ 16 := HZ.out.1
    have hnx1 : 1 ≤ nx := HZ.out.2.1
    have hnx2 : nx ≤ 100000 := HZ.out.2.2
    have HW1 : Hid (IntKind.i64.wrap ((nt : Int) - 1) = (nt : Int) - 1) := wrap_id15 (by omega) (by omega)
    have HW2 : Hid (IntKind.i64.wrap (nx - 1) = nx - 1) := wrap_id15 (by omega) (by omega)
    have h0 : S15 w b wr.heap.size nx (.slice a2 nt c2) x6 x7 x8 x9 w2.drew := by
      obtain ⟨⟨p0, p1, p2, p3, p4, p5, p6⟩, _⟩ := (H.out.later B2.out).1
      obtain ⟨⟨y0, y1, y2, y3, y4, y5, y6, y7, y8, y9⟩, _⟩ := K2.out
      exact ⟨⟨p1, p5, y6, y7, y8, y9⟩, B2.out.drew⟩
    obtain ⟨r1, D1⟩ : ∃ r, Hid (decide (-1 ≤ x6 ∧ x6 ≤ (nt : Int) - 1) = r) := ⟨_, rfl⟩
    obtain ⟨r2, D2⟩ : ∃ r, Hid (decide (1 ≤ x7 ∧ x7 ≤ nx - 1) = r) := ⟨_, rfl⟩
    obtain ⟨r3, D3⟩ : ∃ r, Hid (decide (0 ≤ x8 ∧ x8 ≤ 10) = r) := ⟨_, rfl⟩
    obtain ⟨r4, D4⟩ : ∃ r, Hid (decide (0 ≤ x9 ∧ x9 ≤ 9999) = r) := ⟨_, rfl⟩
    have HE : Hid (((r1 = false ∨ r2 = false ∨ r3 = false ∨ r4 = false) → fsW nw nx bd nr F n S nt T nq R = 3) ∧ (r1 = true → r2 = true → r3 = true → r4 = true → scan (runF nx nt R) (k + 1) = 0)) := by
      refine ⟨fun q => ?_, fun q1 q2 q3 q4 => scan_go HS.out (runF_ok HO.out (HFT.out.2 ⟨of_decide_eq_true (D1.out.trans q1), of_decide_eq_true (D2.out.trans q2), of_decide_eq_true (D3.out.trans q3), of_decide_eq_true (D4.out.trans q4)⟩))⟩
      have h1 : runF nx nt R k = 3 := runF_no HO.out (fun y => by
        have z := HFT.out.1 y
        rcases q with q | q | q | q
        · exact of_decide_eq_false (D1.out.trans q) z.1
        · exact of_decide_eq_false (D2.out.trans q) z.2.1
        · exact of_decide_eq_false (D3.out.trans q) z.2.2.1
        · exact of_decide_eq_false (D4.out.trans q) z.2.2.2)
      exact EW.out.trans ((scan_stop HS.out (by rw [h1]; decide) hlt).trans h1)
    clear HF HS EW HO HFT HX
    go_wp2_with fail
    refine wp_region_held_drew (S := S15 w b wr.heap.size nx (.slice a2 nt c2) x6 x7 x8 x9) (by kernel_rfl) h0 (fun hS => ?_)
    clear h0 B2 K2
    refine tkH 0 ?_ hS (fun wx hx => ?_) ?_; rotate_left
    · obtain ⟨⟨hx0, hx1, hx2, hx3, hx4, hx5⟩, _⟩ := hx; go_simp; try with_reducible rfl
    refine tkH 1 ?_ hS (fun wx hx => ?_) ?_; rotate_left
    · obtain ⟨⟨hx0, hx1, hx2, hx3, hx4, hx5⟩, _⟩ := hx; go_simp; try with_reducible rfl
    refine tkH 2 ?_ hS (fun wx hx => ?_) ?_; rotate_left
    · obtain ⟨⟨hx0, hx1, hx2, hx3, hx4, hx5⟩, _⟩ := hx; go_simp; try with_reducible rfl
    refine tkH 3 ?_ hS (fun wx hx => ?_) ?_; rotate_left
    · obtain ⟨⟨hx0, hx1, hx2, hx3, hx4, hx5⟩, _⟩ := hx; go_simp; try with_reducible rfl
    refine tkH 4 ?_ hS (fun wx hx => ?_) ?_; rotate_left
    · obtain ⟨⟨hx0, hx1, hx2, hx3, hx4, hx5⟩, _⟩ := hx; go_simp; try with_reducible rfl
    refine tkH 5 ?_ hS (fun wx hx => ?_) ?_; rotate_left
    · obtain ⟨⟨hx0, hx1, hx2, hx3, hx4, hx5⟩, _⟩ := hx; go_simp; try with_reducible rfl
    refine tkH 6 ?_ hS (fun wx hx => ?_) ?_; rotate_left
    · obtain ⟨⟨hx0, hx1, hx2, hx3, hx4, hx5⟩, _⟩ := hx; go_simp; try with_reducible rfl
    refine tkH 7 ?_ hS (fun wx hx => ?_) ?_; rotate_left
    · obtain ⟨⟨hx0, hx1, hx2, hx3, hx4, hx5⟩, _⟩ := hx; go_simp; try with_reducible rfl
    refine tkH 8 ?_ hS (fun wx hx => ?_) ?_; rotate_left
    · obtain ⟨⟨hx0, hx1, hx2, hx3, hx4, hx5⟩, _⟩ := hx; go_simp; try with_reducible rfl
    refine rdH 9 (fun K hK => ?_)
    go_simp
    go_wp2_with fail
    try rw [HW1.out]
    try rw [HW2.out]
    refine (inT_is _ _ _ _ D1.out _).mono ?_
    rintro e w9 ⟨rfl, hw9⟩
    obtain rfl := hw9.symm
    go_wp2_with fail
    refine hK.out _ _ hS (fun hS => ?_)
    clear hK K
    refine tkH 10 ?_ hS (fun wx hx => ?_) ?_; rotate_left
    · obtain ⟨⟨hx0, hx1, hx2, hx3, hx4, hx5⟩, _⟩ := hx; go_simp; try with_reducible rfl
    refine tkH 11 ?_ hS (fun wx hx => ?_) ?_; rotate_left
    · obtain ⟨⟨hx0, hx1, hx2, hx3, hx4, hx5⟩, _⟩ := hx; go_simp; try with_reducible rfl
    try simp only [Act.put, List.getElem_toArray, List.getElem_cons_zero, List.getElem_cons_succ, List.setIfInBounds_toArray, List.set_cons_succ, List.set_cons_zero]
    cases r1
    case false =>
      refine noH 12 hS ?_
      refine noH 13 hS ?_
      refine noH 14 hS ?_
      refine noH 15 hS ?_
      refine noH 16 hS ?_
      refine noH 17 hS ?_
      refine noH 18 hS ?_
      refine noH 19 hS ?_
      refine noH 20 hS ?_
      refine noH 21 hS ?_
      refine noH 22 hS ?_
      refine tkH 23 ?_ hS (fun wx hx => ?_) ?_; rotate_left
      · obtain ⟨⟨hx0, hx1, hx2, hx3, hx4, hx5⟩, _⟩ := hx; go_simp; try with_reducible rfl
      refine tkH 24 ?_ hS (fun wx hx => ?_) ?_; rotate_left
      · obtain ⟨⟨hx0, hx1, hx2, hx3, hx4, hx5⟩, _⟩ := hx; go_simp; try with_reducible rfl
      refine noH 25 hS ?_
      refine noH 26 hS ?_
      refine noH 27 hS ?_
      refine noH 28 hS ?_
      refine tkH 29 ?_ hS (fun wx hx => ?_) ?_; rotate_left
      · obtain ⟨⟨hx0, hx1, hx2, hx3, hx4, hx5⟩, _⟩ := hx; go_simp; try with_reducible rfl
      refine tkH 30 ?_ hS (fun wx hx => ?_) ?_; rotate_left
      · obtain ⟨⟨hx0, hx1, hx2, hx3, hx4, hx5⟩, _⟩ := hx; go_simp; try with_reducible rfl
      refine noH 31 hS ?_
      refine noH 32 hS ?_
      refine noH 33 hS ?_
      refine noH 34 hS ?_
      refine tkH 35 ?_ hS (fun wx hx => ?_) ?_; rotate_left
      · obtain ⟨⟨hx0, hx1, hx2, hx3, hx4, hx5⟩, _⟩ := hx; go_simp; try with_reducible rfl
      refine wpAnyH_done (by kernel_rfl) ?_ _
      go_simp
      have BB : Hid (Below w.heap.size w w2.drew) := hS.2
      clear hS
      go_wp2
      go_ret
      exact ⟨by rw [HE.out.1 (by simp)]; rfl, BB.out⟩
    refine tkH 12 ?_ hS (fun wx hx => ?_) ?_; rotate_left
    · obtain ⟨⟨hx0, hx1, hx2, hx3, hx4, hx5⟩, _⟩ := hx; go_simp; try with_reducible rfl
    refine tkH 13 ?_ hS (fun wx hx => ?_) ?_; rotate_left
    · obtain ⟨⟨hx0, hx1, hx2, hx3, hx4, hx5⟩, _⟩ := hx; go_simp; try with_reducible rfl
    refine tkH 14 ?_ hS (fun wx hx => ?_) ?_; rotate_left
    · obtain ⟨⟨hx0, hx1, hx2, hx3, hx4, hx5⟩, _⟩ := hx; go_simp; try with_reducible rfl
    refine tkH 15 ?_ hS (fun wx hx => ?_) ?_; rotate_left
    · obtain ⟨⟨hx0, hx1, hx2, hx3, hx4, hx5⟩, _⟩ := hx; go_simp; try with_reducible rfl
    refine tkH 16 ?_ hS (fun wx hx => ?_) ?_; rotate_left
    · obtain ⟨⟨hx0, hx1, hx2, hx3, hx4, hx5⟩, _⟩ := hx; go_simp; try with_reducible rfl
    refine tkH 17 ?_ hS (fun wx hx => ?_) ?_; rotate_left
    · obtain ⟨⟨hx0, hx1, hx2, hx3, hx4, hx5⟩, _⟩ := hx; go_simp; try with_reducible rfl
    refine tkH 18 ?_ hS (fun wx hx => ?_) ?_; rotate_left
    · obtain ⟨⟨hx0, hx1, hx2, hx3, hx4, hx5⟩, _⟩ := hx; go_simp; try with_reducible rfl
    refine tkH 19 ?_ hS (fun wx hx => ?_) ?_; rotate_left
    · obtain ⟨⟨hx0, hx1, hx2, hx3, hx4, hx5⟩, _⟩ := hx; go_simp; try with_reducible rfl
    refine tkH 20 ?_ hS (fun wx hx => ?_) ?_; rotate_left
    · obtain ⟨⟨hx0, hx1, hx2, hx3, hx4, hx5⟩, _⟩ := hx; go_simp; try with_reducible rfl
    refine rdH 21 (fun K hK => ?_)
    go_simp
    go_wp2_with fail
    try rw [HW1.out]
    try rw [HW2.out]
    refine (inT_is _ _ _ _ D2.out _).mono ?_
    rintro e w9 ⟨rfl, hw9⟩
    obtain rfl := hw9.symm
    go_wp2_with fail
    refine hK.out _ _ hS (fun hS => ?_)
    clear hK K
    refine tkH 22 ?_ hS (fun wx hx => ?_) ?_; rotate_left
    · obtain ⟨⟨hx0, hx1, hx2, hx3, hx4, hx5⟩, _⟩ := hx; go_simp; try with_reducible rfl
    try simp only [Act.put, List.getElem_toArray, List.getElem_cons_zero, List.getElem_cons_succ, List.setIfInBounds_toArray, List.set_cons_succ, List.set_cons_zero]
    cases r2
    case false =>
      refine tkH 23 ?_ hS (fun wx hx => ?_) ?_; rotate_left
      · obtain ⟨⟨hx0, hx1, hx2, hx3, hx4, hx5⟩, _⟩ := hx; go_simp; try with_reducible rfl
      refine tkH 24 ?_ hS (fun wx hx => ?_) ?_; rotate_left
      · obtain ⟨⟨hx0, hx1, hx2, hx3, hx4, hx5⟩, _⟩ := hx; go_simp; try with_reducible rfl
      refine noH 25 hS ?_
      refine noH 26 hS ?_
      refine noH 27 hS ?_
      refine noH 28 hS ?_
      refine tkH 29 ?_ hS (fun wx hx => ?_) ?_; rotate_left
      · obtain ⟨⟨hx0, hx1, hx2, hx3, hx4, hx5⟩, _⟩ := hx; go_simp; try with_reducible rfl
      refine tkH 30 ?_ hS (fun wx hx => ?_) ?_; rotate_left
      · obtain ⟨⟨hx0, hx1, hx2, hx3, hx4, hx5⟩, _⟩ := hx; go_simp; try with_reducible rfl
      refine noH 31 hS ?_
      refine noH 32 hS ?_
      refine noH 33 hS ?_
      refine noH 34 hS ?_
      refine tkH 35 ?_ hS (fun wx hx => ?_) ?_; rotate_left
      · obtain ⟨⟨hx0, hx1, hx2, hx3, hx4, hx5⟩, _⟩ := hx; go_simp; try with_reducible rfl
      refine wpAnyH_done (by kernel_rfl) ?_ _
      go_simp
      have BB : Hid (Below w.heap.size w w2.drew) := hS.2
      clear hS
      go_wp2
      go_ret
      exact ⟨by rw [HE.out.1 (by simp)]; rfl, BB.out⟩
    refine tkH 23 ?_ hS (fun wx hx => ?_) ?_; rotate_left
    · obtain ⟨⟨hx0, hx1, hx2, hx3, hx4, hx5⟩, _⟩ := hx; go_simp; try with_reducible rfl
    refine tkH 24 ?_ hS (fun wx hx => ?_) ?_; rotate_left
    · obtain ⟨⟨hx0, hx1, hx2, hx3, hx4, hx5⟩, _⟩ := hx; go_simp; try with_reducible rfl
    refine tkH 25 ?_ hS (fun wx hx => ?_) ?_; rotate_left
    · obtain ⟨⟨hx0, hx1, hx2, hx3, hx4, hx5⟩, _⟩ := hx; go_simp; try with_reducible rfl
    refine tkH 26 ?_ hS (fun wx hx => ?_) ?_; rotate_left
    · obtain ⟨⟨hx0, hx1, hx2, hx3, hx4, hx5⟩, _⟩ := hx; go_simp; try with_reducible rfl
    refine rdH 27 (fun K hK => ?_)
    go_simp
    go_wp2_with fail
    try rw [HW1.out]
    try rw [HW2.out]
    refine (inT_is _ _ _ _ D3.out _).mono ?_
    rintro e w9 ⟨rfl, hw9⟩
    obtain rfl := hw9.symm
    go_wp2_with fail
    refine hK.out _ _ hS (fun hS => ?_)
    clear hK K
    refine tkH 28 ?_ hS (fun wx hx => ?_) ?_; rotate_left
    · obtain ⟨⟨hx0, hx1, hx2, hx3, hx4, hx5⟩, _⟩ := hx; go_simp; try with_reducible rfl
    try simp only [Act.put, List.getElem_toArray, List.getElem_cons_zero, List.getElem_cons_succ, List.setIfInBounds_toArray, List.set_cons_succ, List.set_cons_zero]
    cases r3
    case false =>
      refine tkH 29 ?_ hS (fun wx hx => ?_) ?_; rotate_left
      · obtain ⟨⟨hx0, hx1, hx2, hx3, hx4, hx5⟩, _⟩ := hx; go_simp; try with_reducible rfl
      refine tkH 30 ?_ hS (fun wx hx => ?_) ?_; rotate_left
      · obtain ⟨⟨hx0, hx1, hx2, hx3, hx4, hx5⟩, _⟩ := hx; go_simp; try with_reducible rfl
      refine noH 31 hS ?_
      refine noH 32 hS ?_
      refine noH 33 hS ?_
      refine noH 34 hS ?_
      refine tkH 35 ?_ hS (fun wx hx => ?_) ?_; rotate_left
      · obtain ⟨⟨hx0, hx1, hx2, hx3, hx4, hx5⟩, _⟩ := hx; go_simp; try with_reducible rfl
      refine wpAnyH_done (by kernel_rfl) ?_ _
      go_simp
      have BB : Hid (Below w.heap.size w w2.drew) := hS.2
      clear hS
      go_wp2
      go_ret
      exact ⟨by rw [HE.out.1 (by simp)]; rfl, BB.out⟩
    refine tkH 29 ?_ hS (fun wx hx => ?_) ?_; rotate_left
    · obtain ⟨⟨hx0, hx1, hx2, hx3, hx4, hx5⟩, _⟩ := hx; go_simp; try with_reducible rfl
    refine tkH 30 ?_ hS (fun wx hx => ?_) ?_; rotate_left
    · obtain ⟨⟨hx0, hx1, hx2, hx3, hx4, hx5⟩, _⟩ := hx; go_simp; try with_reducible rfl
    refine tkH 31 ?_ hS (fun wx hx => ?_) ?_; rotate_left
    · obtain ⟨⟨hx0, hx1, hx2, hx3, hx4, hx5⟩, _⟩ := hx; go_simp; try with_reducible rfl
    refine tkH 32 ?_ hS (fun wx hx => ?_) ?_; rotate_left
    · obtain ⟨⟨hx0, hx1, hx2, hx3, hx4, hx5⟩, _⟩ := hx; go_simp; try with_reducible rfl
    refine rdH 33 (fun K hK => ?_)
    go_simp
    go_wp2_with fail
    try rw [HW1.out]
    try rw [HW2.out]
    refine (inT_is _ _ _ _ D4.out _).mono ?_
    rintro e w9 ⟨rfl, hw9⟩
    obtain rfl := hw9.symm
    go_wp2_with fail
    refine hK.out _ _ hS (fun hS => ?_)
    clear hK K
    refine tkH 34 ?_ hS (fun wx hx => ?_) ?_; rotate_left
    · obtain ⟨⟨hx0, hx1, hx2, hx3, hx4, hx5⟩, _⟩ := hx; go_simp; try with_reducible rfl
    try simp only [Act.put, List.getElem_toArray, List.getElem_cons_zero, List.getElem_cons_succ, List.setIfInBounds_toArray, List.set_cons_succ, List.set_cons_zero]
    cases r4
    case false =>
      refine tkH 35 ?_ hS (fun wx hx => ?_) ?_; rotate_left
      · obtain ⟨⟨hx0, hx1, hx2, hx3, hx4, hx5⟩, _⟩ := hx; go_simp; try with_reducible rfl
      refine wpAnyH_done (by kernel_rfl) ?_ _
      go_simp
      have BB : Hid (Below w.heap.size w w2.drew) := hS.2
      clear hS
      go_wp2
      go_ret
      exact ⟨by rw [HE.out.1 (by simp)]; rfl, BB.out⟩
    refine tkH 35 ?_ hS (fun wx hx => ?_) ?_; rotate_left
    · obtain ⟨⟨hx0, hx1, hx2, hx3, hx4, hx5⟩, _⟩ := hx; go_simp; try with_reducible rfl
    refine wpAnyH_done (by kernel_rfl) ?_ _
    go_simp
    have BB : Hid (Below w.heap.size w w2.drew) := hS.2
    clear hS
    have HS1 : Hid (scan (runF nx nt R) (k + 1) = 0) := HE.out.2 (by simp) (by simp) (by simp) (by simp)
    go_wp2
    go_roundw
    case rel => exact ⟨k + 1, by omega, by go_num, HS1, BB⟩
    case measure => simp [intOf]; omega
end Go.Proofs.YtjkchhcnochjlaaGreatDoor

