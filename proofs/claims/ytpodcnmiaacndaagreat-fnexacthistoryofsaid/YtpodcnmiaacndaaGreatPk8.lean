/-
  Own text, merged of RunG, RunE, StorL, StorG, StatA, AcmA, InsD, DonA, DonC, DonD, SortD, StoA, GrpO, RngI.
-/
import Derived.Test.YtpodcnmiaacndaaGreatPk7
namespace Go.Proofs.YtpodcnmiaacndaaGreat
open Go.RowKit

set_option maxRecDepth 100000 in
set_option maxHeartbeats 2000000 in
theorem runFits_is (x0 x1 x2 x3 x4 x5 x6 x7 x8 x9 nw nx bd : Int) (u v : Value) (a2 : Option Addr) (nt c2 : Nat) (r : Bool) (hr : decide (Fits nx nt x6 x7 x8 x9) = r) (h1 : 1 ≤ nx) (h2 : nx ≤ 100000) (w : World) :
    Calls Tryz.prog 32 #[.agg #[.int .i64 x0, .int .i64 x1, .int .i64 x2, .int .i64 x3, .int .i64 x4, .int .i64 x5, .int .i64 x6, .int .i64 x7, .int .i64 x8, .int .i64 x9], .agg #[.int .i64 nw, .int .i64 nx, .int .i64 bd, u, v, .slice a2 nt c2]] w fun e w' => e = .returned (.bool r) ∧ Below w.heap.size w w' := by
  unfold Fits at hr
  have HB : Hid (Below w.heap.size w ((w.alloc (.cells #[.int .i64 x0, .int .i64 x1, .int .i64 x2, .int .i64 x3, .int .i64 x4, .int .i64 x5, .int .i64 x6, .int .i64 x7, .int .i64 x8, .int .i64 x9] 74)).alloc (.cells #[.int .i64 nw, .int .i64 nx, .int .i64 bd, u, v, .slice a2 nt c2] 43))) := (below_alloc _ _).alloc (by simp) _
  by_cases q1 : -1 ≤ x6
  case neg =>
    have a1 : decide (-1 ≤ x6) = false := decide_eq_false q1
    by_cases q3 : 1 ≤ x7 ∧ x7 ≤ 100000
    case neg =>
      have TT : Hid (decide (1 ≤ x7 ∧ x7 ≤ 100000) = false) := decide_eq_false q3
      by_cases q5 : 0 ≤ x8
      case neg =>
        have a5 : decide (0 ≤ x8) = false := decide_eq_false q5
        obtain rfl : r = false := by rw [← hr]; exact decide_eq_false (by omega)
        clear hr
        go_enter Tryz.func32, Tryz.ntmps32
        go_wp2_with fail
        refine (isTimeT_is _ _ TT.out _).mono ?_
        rintro e w9 ⟨rfl, hw9⟩
        obtain rfl := hw9.symm
        go_wp2
        go_ret
        exact ⟨rfl, HB.out⟩
      have a5 : decide (0 ≤ x8) = true := decide_eq_true q5
      by_cases q6 : x8 ≤ 10
      case neg =>
        have a6 : decide (x8 ≤ 10) = false := decide_eq_false q6
        obtain rfl : r = false := by rw [← hr]; exact decide_eq_false (by omega)
        clear hr
        go_enter Tryz.func32, Tryz.ntmps32
        go_wp2_with fail
        refine (isTimeT_is _ _ TT.out _).mono ?_
        rintro e w9 ⟨rfl, hw9⟩
        obtain rfl := hw9.symm
        go_wp2
        go_ret
        exact ⟨rfl, HB.out⟩
      have a6 : decide (x8 ≤ 10) = true := decide_eq_true q6
      obtain rfl : r = false := by rw [← hr]; exact decide_eq_false (by omega)
      clear hr
      go_enter Tryz.func32, Tryz.ntmps32
      go_wp2_with fail
      refine (isTimeT_is _ _ TT.out _).mono ?_
      rintro e w9 ⟨rfl, hw9⟩
      obtain rfl := hw9.symm
      go_wp2
      go_ret
      exact ⟨rfl, HB.out⟩
    have TT : Hid (decide (1 ≤ x7 ∧ x7 ≤ 100000) = true) := decide_eq_true q3
    by_cases q4 : x7 < nx
    case neg =>
      have a4 : decide (x7 < nx) = false := decide_eq_false q4
      by_cases q5 : 0 ≤ x8
      case neg =>
        have a5 : decide (0 ≤ x8) = false := decide_eq_false q5
        obtain rfl : r = false := by rw [← hr]; exact decide_eq_false (by omega)
        clear hr
        go_enter Tryz.func32, Tryz.ntmps32
        go_wp2_with fail
        refine (isTimeT_is _ _ TT.out _).mono ?_
        rintro e w9 ⟨rfl, hw9⟩
        obtain rfl := hw9.symm
        go_wp2
        go_ret
        exact ⟨rfl, HB.out⟩
      have a5 : decide (0 ≤ x8) = true := decide_eq_true q5
      by_cases q6 : x8 ≤ 10
      case neg =>
        have a6 : decide (x8 ≤ 10) = false := decide_eq_false q6
        obtain rfl : r = false := by rw [← hr]; exact decide_eq_false (by omega)
        clear hr
        go_enter Tryz.func32, Tryz.ntmps32
        go_wp2_with fail
        refine (isTimeT_is _ _ TT.out _).mono ?_
        rintro e w9 ⟨rfl, hw9⟩
        obtain rfl := hw9.symm
        go_wp2
        go_ret
        exact ⟨rfl, HB.out⟩
      have a6 : decide (x8 ≤ 10) = true := decide_eq_true q6
      obtain rfl : r = false := by rw [← hr]; exact decide_eq_false (by omega)
      clear hr
      go_enter Tryz.func32, Tryz.ntmps32
      go_wp2_with fail
      refine (isTimeT_is _ _ TT.out _).mono ?_
      rintro e w9 ⟨rfl, hw9⟩
      obtain rfl := hw9.symm
      go_wp2
      go_ret
      exact ⟨rfl, HB.out⟩
    have a4 : decide (x7 < nx) = true := decide_eq_true q4
    by_cases q5 : 0 ≤ x8
    case neg =>
      have a5 : decide (0 ≤ x8) = false := decide_eq_false q5
      obtain rfl : r = false := by rw [← hr]; exact decide_eq_false (by omega)
      clear hr
      go_enter Tryz.func32, Tryz.ntmps32
      go_wp2_with fail
      refine (isTimeT_is _ _ TT.out _).mono ?_
      rintro e w9 ⟨rfl, hw9⟩
      obtain rfl := hw9.symm
      go_wp2
      go_ret
      exact ⟨rfl, HB.out⟩
    have a5 : decide (0 ≤ x8) = true := decide_eq_true q5
    by_cases q6 : x8 ≤ 10
    case neg =>
      have a6 : decide (x8 ≤ 10) = false := decide_eq_false q6
      obtain rfl : r = false := by rw [← hr]; exact decide_eq_false (by omega)
      clear hr
      go_enter Tryz.func32, Tryz.ntmps32
      go_wp2_with fail
      refine (isTimeT_is _ _ TT.out _).mono ?_
      rintro e w9 ⟨rfl, hw9⟩
      obtain rfl := hw9.symm
      go_wp2
      go_ret
      exact ⟨rfl, HB.out⟩
    have a6 : decide (x8 ≤ 10) = true := decide_eq_true q6
    obtain rfl : r = false := by rw [← hr]; exact decide_eq_false (by omega)
    clear hr
    go_enter Tryz.func32, Tryz.ntmps32
    go_wp2_with fail
    refine (isTimeT_is _ _ TT.out _).mono ?_
    rintro e w9 ⟨rfl, hw9⟩
    obtain rfl := hw9.symm
    go_wp2
    go_ret
    exact ⟨rfl, HB.out⟩
  have a1 : decide (-1 ≤ x6) = true := decide_eq_true q1
  by_cases q2 : x6 < (nt : Int)
  case neg =>
    have a2 : decide (x6 < (nt : Int)) = false := decide_eq_false q2
    by_cases q3 : 1 ≤ x7 ∧ x7 ≤ 100000
    case neg =>
      have TT : Hid (decide (1 ≤ x7 ∧ x7 ≤ 100000) = false) := decide_eq_false q3
      by_cases q5 : 0 ≤ x8
      case neg =>
        have a5 : decide (0 ≤ x8) = false := decide_eq_false q5
        obtain rfl : r = false := by rw [← hr]; exact decide_eq_false (by omega)
        clear hr
        go_enter Tryz.func32, Tryz.ntmps32
        go_wp2_with fail
        refine (isTimeT_is _ _ TT.out _).mono ?_
        rintro e w9 ⟨rfl, hw9⟩
        obtain rfl := hw9.symm
        go_wp2
        go_ret
        exact ⟨rfl, HB.out⟩
      have a5 : decide (0 ≤ x8) = true := decide_eq_true q5
      by_cases q6 : x8 ≤ 10
      case neg =>
        have a6 : decide (x8 ≤ 10) = false := decide_eq_false q6
        obtain rfl : r = false := by rw [← hr]; exact decide_eq_false (by omega)
        clear hr
        go_enter Tryz.func32, Tryz.ntmps32
        go_wp2_with fail
        refine (isTimeT_is _ _ TT.out _).mono ?_
        rintro e w9 ⟨rfl, hw9⟩
        obtain rfl := hw9.symm
        go_wp2
        go_ret
        exact ⟨rfl, HB.out⟩
      have a6 : decide (x8 ≤ 10) = true := decide_eq_true q6
      obtain rfl : r = false := by rw [← hr]; exact decide_eq_false (by omega)
      clear hr
      go_enter Tryz.func32, Tryz.ntmps32
      go_wp2_with fail
      refine (isTimeT_is _ _ TT.out _).mono ?_
      rintro e w9 ⟨rfl, hw9⟩
      obtain rfl := hw9.symm
      go_wp2
      go_ret
      exact ⟨rfl, HB.out⟩
    have TT : Hid (decide (1 ≤ x7 ∧ x7 ≤ 100000) = true) := decide_eq_true q3
    by_cases q4 : x7 < nx
    case neg =>
      have a4 : decide (x7 < nx) = false := decide_eq_false q4
      by_cases q5 : 0 ≤ x8
      case neg =>
        have a5 : decide (0 ≤ x8) = false := decide_eq_false q5
        obtain rfl : r = false := by rw [← hr]; exact decide_eq_false (by omega)
        clear hr
        go_enter Tryz.func32, Tryz.ntmps32
        go_wp2_with fail
        refine (isTimeT_is _ _ TT.out _).mono ?_
        rintro e w9 ⟨rfl, hw9⟩
        obtain rfl := hw9.symm
        go_wp2
        go_ret
        exact ⟨rfl, HB.out⟩
      have a5 : decide (0 ≤ x8) = true := decide_eq_true q5
      by_cases q6 : x8 ≤ 10
      case neg =>
        have a6 : decide (x8 ≤ 10) = false := decide_eq_false q6
        obtain rfl : r = false := by rw [← hr]; exact decide_eq_false (by omega)
        clear hr
        go_enter Tryz.func32, Tryz.ntmps32
        go_wp2_with fail
        refine (isTimeT_is _ _ TT.out _).mono ?_
        rintro e w9 ⟨rfl, hw9⟩
        obtain rfl := hw9.symm
        go_wp2
        go_ret
        exact ⟨rfl, HB.out⟩
      have a6 : decide (x8 ≤ 10) = true := decide_eq_true q6
      obtain rfl : r = false := by rw [← hr]; exact decide_eq_false (by omega)
      clear hr
      go_enter Tryz.func32, Tryz.ntmps32
      go_wp2_with fail
      refine (isTimeT_is _ _ TT.out _).mono ?_
      rintro e w9 ⟨rfl, hw9⟩
      obtain rfl := hw9.symm
      go_wp2
      go_ret
      exact ⟨rfl, HB.out⟩
    have a4 : decide (x7 < nx) = true := decide_eq_true q4
    by_cases q5 : 0 ≤ x8
    case neg =>
      have a5 : decide (0 ≤ x8) = false := decide_eq_false q5
      obtain rfl : r = false := by rw [← hr]; exact decide_eq_false (by omega)
      clear hr
      go_enter Tryz.func32, Tryz.ntmps32
      go_wp2_with fail
      refine (isTimeT_is _ _ TT.out _).mono ?_
      rintro e w9 ⟨rfl, hw9⟩
      obtain rfl := hw9.symm
      go_wp2
      go_ret
      exact ⟨rfl, HB.out⟩
    have a5 : decide (0 ≤ x8) = true := decide_eq_true q5
    by_cases q6 : x8 ≤ 10
    case neg =>
      have a6 : decide (x8 ≤ 10) = false := decide_eq_false q6
      obtain rfl : r = false := by rw [← hr]; exact decide_eq_false (by omega)
      clear hr
      go_enter Tryz.func32, Tryz.ntmps32
      go_wp2_with fail
      refine (isTimeT_is _ _ TT.out _).mono ?_
      rintro e w9 ⟨rfl, hw9⟩
      obtain rfl := hw9.symm
      go_wp2
      go_ret
      exact ⟨rfl, HB.out⟩
    have a6 : decide (x8 ≤ 10) = true := decide_eq_true q6
    obtain rfl : r = false := by rw [← hr]; exact decide_eq_false (by omega)
    clear hr
    go_enter Tryz.func32, Tryz.ntmps32
    go_wp2_with fail
    refine (isTimeT_is _ _ TT.out _).mono ?_
    rintro e w9 ⟨rfl, hw9⟩
    obtain rfl := hw9.symm
    go_wp2
    go_ret
    exact ⟨rfl, HB.out⟩
  have a2 : decide (x6 < (nt : Int)) = true := decide_eq_true q2
  by_cases q3 : 1 ≤ x7 ∧ x7 ≤ 100000
  case neg =>
    have TT : Hid (decide (1 ≤ x7 ∧ x7 ≤ 100000) = false) := decide_eq_false q3
    by_cases q5 : 0 ≤ x8
    case neg =>
      have a5 : decide (0 ≤ x8) = false := decide_eq_false q5
      obtain rfl : r = false := by rw [← hr]; exact decide_eq_false (by omega)
      clear hr
      go_enter Tryz.func32, Tryz.ntmps32
      go_wp2_with fail
      refine (isTimeT_is _ _ TT.out _).mono ?_
      rintro e w9 ⟨rfl, hw9⟩
      obtain rfl := hw9.symm
      go_wp2
      go_ret
      exact ⟨rfl, HB.out⟩
    have a5 : decide (0 ≤ x8) = true := decide_eq_true q5
    by_cases q6 : x8 ≤ 10
    case neg =>
      have a6 : decide (x8 ≤ 10) = false := decide_eq_false q6
      obtain rfl : r = false := by rw [← hr]; exact decide_eq_false (by omega)
      clear hr
      go_enter Tryz.func32, Tryz.ntmps32
      go_wp2_with fail
      refine (isTimeT_is _ _ TT.out _).mono ?_
      rintro e w9 ⟨rfl, hw9⟩
      obtain rfl := hw9.symm
      go_wp2
      go_ret
      exact ⟨rfl, HB.out⟩
    have a6 : decide (x8 ≤ 10) = true := decide_eq_true q6
    obtain rfl : r = false := by rw [← hr]; exact decide_eq_false (by omega)
    clear hr
    go_enter Tryz.func32, Tryz.ntmps32
    go_wp2_with fail
    refine (isTimeT_is _ _ TT.out _).mono ?_
    rintro e w9 ⟨rfl, hw9⟩
    obtain rfl := hw9.symm
    go_wp2
    go_ret
    exact ⟨rfl, HB.out⟩
  have TT : Hid (decide (1 ≤ x7 ∧ x7 ≤ 100000) = true) := decide_eq_true q3
  by_cases q4 : x7 < nx
  case neg =>
    have a4 : decide (x7 < nx) = false := decide_eq_false q4
    by_cases q5 : 0 ≤ x8
    case neg =>
      have a5 : decide (0 ≤ x8) = false := decide_eq_false q5
      obtain rfl : r = false := by rw [← hr]; exact decide_eq_false (by omega)
      clear hr
      go_enter Tryz.func32, Tryz.ntmps32
      go_wp2_with fail
      refine (isTimeT_is _ _ TT.out _).mono ?_
      rintro e w9 ⟨rfl, hw9⟩
      obtain rfl := hw9.symm
      go_wp2
      go_ret
      exact ⟨rfl, HB.out⟩
    have a5 : decide (0 ≤ x8) = true := decide_eq_true q5
    by_cases q6 : x8 ≤ 10
    case neg =>
      have a6 : decide (x8 ≤ 10) = false := decide_eq_false q6
      obtain rfl : r = false := by rw [← hr]; exact decide_eq_false (by omega)
      clear hr
      go_enter Tryz.func32, Tryz.ntmps32
      go_wp2_with fail
      refine (isTimeT_is _ _ TT.out _).mono ?_
      rintro e w9 ⟨rfl, hw9⟩
      obtain rfl := hw9.symm
      go_wp2
      go_ret
      exact ⟨rfl, HB.out⟩
    have a6 : decide (x8 ≤ 10) = true := decide_eq_true q6
    obtain rfl : r = false := by rw [← hr]; exact decide_eq_false (by omega)
    clear hr
    go_enter Tryz.func32, Tryz.ntmps32
    go_wp2_with fail
    refine (isTimeT_is _ _ TT.out _).mono ?_
    rintro e w9 ⟨rfl, hw9⟩
    obtain rfl := hw9.symm
    go_wp2
    go_ret
    exact ⟨rfl, HB.out⟩
  have a4 : decide (x7 < nx) = true := decide_eq_true q4
  by_cases q5 : 0 ≤ x8
  case neg =>
    have a5 : decide (0 ≤ x8) = false := decide_eq_false q5
    obtain rfl : r = false := by rw [← hr]; exact decide_eq_false (by omega)
    clear hr
    go_enter Tryz.func32, Tryz.ntmps32
    go_wp2_with fail
    refine (isTimeT_is _ _ TT.out _).mono ?_
    rintro e w9 ⟨rfl, hw9⟩
    obtain rfl := hw9.symm
    go_wp2
    go_ret
    exact ⟨rfl, HB.out⟩
  have a5 : decide (0 ≤ x8) = true := decide_eq_true q5
  by_cases q6 : x8 ≤ 10
  case neg =>
    have a6 : decide (x8 ≤ 10) = false := decide_eq_false q6
    obtain rfl : r = false := by rw [← hr]; exact decide_eq_false (by omega)
    clear hr
    go_enter Tryz.func32, Tryz.ntmps32
    go_wp2_with fail
    refine (isTimeT_is _ _ TT.out _).mono ?_
    rintro e w9 ⟨rfl, hw9⟩
    obtain rfl := hw9.symm
    go_wp2
    go_ret
    exact ⟨rfl, HB.out⟩
  have a6 : decide (x8 ≤ 10) = true := decide_eq_true q6
  by_cases q7 : 0 ≤ x9 ∧ x9 ≤ 9999
  case neg =>
    have VV : Hid (decide (0 ≤ x9 ∧ x9 ≤ 9999) = false) := decide_eq_false q7
    obtain rfl : r = false := by rw [← hr]; exact decide_eq_false (by omega)
    clear hr
    go_enter Tryz.func32, Tryz.ntmps32
    go_wp2_with fail
    refine (isTimeT_is _ _ TT.out _).mono ?_
    rintro e w9 ⟨rfl, hw9⟩
    obtain rfl := hw9.symm
    go_wp2_with fail
    refine (isValueT_is _ _ VV.out _).mono ?_
    rintro e w9 ⟨rfl, hw9⟩
    obtain rfl := hw9.symm
    go_wp2
    go_ret
    exact ⟨rfl, HB.out⟩
  have VV : Hid (decide (0 ≤ x9 ∧ x9 ≤ 9999) = true) := decide_eq_true q7
  obtain rfl : r = true := by rw [← hr]; exact decide_eq_true (by omega)
  clear hr
  go_enter Tryz.func32, Tryz.ntmps32
  go_wp2_with fail
  refine (isTimeT_is _ _ TT.out _).mono ?_
  rintro e w9 ⟨rfl, hw9⟩
  obtain rfl := hw9.symm
  go_wp2_with fail
  refine (isValueT_is _ _ VV.out _).mono ?_
  rintro e w9 ⟨rfl, hw9⟩
  obtain rfl := hw9.symm
  go_wp2
  go_ret
  exact ⟨rfl, HB.out⟩
end Go.Proofs.YtpodcnmiaacndaaGreat

namespace Go.Proofs.YtpodcnmiaacndaaGreat
open Go.RowKit

set_option maxRecDepth 100000 in
set_option maxHeartbeats 2000000 in
theorem implFsWorldFault_any (nw nx bd : Int) (nr : Nat) (F : Nat → Int) (n : Nat) (S : Nat → Sto) (V : Nat → Nat → Value) (vr vs : Value) (nt : Nat) (T : Nat → Tx) (X : Nat → Value) (vt : Value) (nq : Nat) (R : Nat → Int) (vq : Value) (B : Nat) (w : World) (h : Grs w B nr F n S V vr vs) (hx : Txs w B nt T X vt) (hq : Row w B 10 nq R vq) (hr : nr ≤ 9223372036854775807) (hn : n ≤ 9223372036854775807) (hnt : nt ≤ 9223372036854775807) (hnq : nq ≤ 9223372036854775807) :
    Calls Tryz.prog 10 #[.agg #[.int .i64 nw, .int .i64 nx, .int .i64 bd, vr, vs, vt, vq]] w fun e w' => e = .returned (.int .i64 (fsW nw nx bd nr F n S nt T nq R)) ∧ Below w.heap.size w w' := by
  obtain ⟨a0, c0, a1, c1, rfl, rfl⟩ := h.form
  obtain ⟨a2, c2, rfl⟩ := hx.form
  obtain ⟨a3, c3, rfl⟩ := hq.form
  have H : Hid (LiesF (w.alloc (.cells #[.int .i64 nw, .int .i64 nx, .int .i64 bd, .slice a0 nr c0, .slice a1 n c1, .slice a2 nt c2, .slice a3 nq c3] 46)) w.heap.size nw nx bd nr F n S V (.slice a0 nr c0) (.slice a1 n c1) nt T X (.slice a2 nt c2) nq R (.slice a3 nq c3) ∧ Below w.heap.size w (w.alloc (.cells #[.int .i64 nw, .int .i64 nx, .int .i64 bd, .slice a0 nr c0, .slice a1 n c1, .slice a2 nt c2, .slice a3 nq c3] 46))) := ⟨⟨Blk7F.new w _ _ _ _ _ _ _ _, (h.mono (Nat.zero_le _)).alloc _, (hx.mono (Nat.zero_le _)).alloc _, (hq.mono (Nat.zero_le _)).later (below_alloc _ _)⟩, below_alloc _ _⟩
  clear h hx hq
  obtain ⟨f, hf⟩ : ∃ f, worldF nw nx bd nr F n S nt T = f := ⟨_, rfl⟩
  have HF : Hid (worldF nw nx bd nr F n S nt T = f) := hf
  clear hf
  go_enter Tryz.func10, Tryz.ntmps10
  go_wp2_with fail
  generalize w.alloc (.cells #[.int .i64 nw, .int .i64 nx, .int .i64 bd, .slice a0 nr c0, .slice a1 n c1, .slice a2 nt c2, .slice a3 nq c3] 46) = w0 at H ⊢
  refine (implWorldFault_any nw nx bd nr F n S V _ _ nt T X _ 0 _ H.out.1.2.1 H.out.1.2.2.1 hr hn hnt).mono ?_
  rw [HF.out]
  rintro e w1 ⟨rfl, q1⟩
  have H1 : Hid (LiesF w1 w.heap.size nw nx bd nr F n S V (.slice a0 nr c0) (.slice a1 n c1) nt T X (.slice a2 nt c2) nq R (.slice a3 nq c3) ∧ Below w.heap.size w w1) := ⟨H.out.1.later q1, H.out.2.trans (q1.mono H.out.2.size)⟩
  clear q1 H
  by_cases hz : f = 0
  case neg =>
    have d' : (f != 0) = true := bne_iff_ne.2 hz
    have E : Hid (fsW nw nx bd nr F n S nt T nq R = f) := fsW_world HF.out hz
    clear hz HF
    go_wp2
    go_ret
    exact ⟨by rw [E.out]; rfl, H1.out.2⟩
  subst hz
  obtain ⟨⟨p0, p1, p2, p3, p4, p5, p6⟩, _⟩ := H1.out.1.1
  by_cases h30 : 30 < nq
  · have d : decide ((30 : Int) < (nq : Int)) = true := decide_eq_true (by omega)
    have E : Hid (fsW nw nx bd nr F n S nt T nq R = 2) := fsW_many HF.out h30
    clear h30 HF
    go_wp2
    go_ret
    exact ⟨by rw [E.out]; rfl, H1.out.2⟩
  have d : decide ((30 : Int) < (nq : Int)) = false := decide_eq_false (by omega)
  have EW : Hid (fsW nw nx bd nr F n S nt T nq R = scan (runF nx nt R) nq) := fsW_runs HF.out h30
  have HZ : Hid (nt ≤ 16 ∧ 1 ≤ nx ∧ nx ≤ 100000) := by
    have z := worldF_zero HF.out
    have y := oFault_zero z.2.1
    exact ⟨z.2.2.2.1, by omega⟩
  have hn30 : nq ≤ 30 := by omega
  clear h30 HF
  go_wp2_with fail
  clear p0 p1 p2 p3 p4 p5 p6 d
  go_loopw [20] (fun i wr => ∃ k : Nat, k ≤ nq ∧ i = .int .i64 k ∧ Hid (scan (runF nx nt R) k = 0) ∧ Hid (LiesF wr w.heap.size nw nx bd nr F n S V (.slice a0 nr c0) (.slice a1 n c1) nt T X (.slice a2 nt c2) nq R (.slice a3 nq c3) ∧ Below w.heap.size w wr)) (fun i _ => nq - (intOf i).toNat)
  case atStart => exact ⟨0, Nat.zero_le _, rfl, rfl, H1⟩
  case round =>
    clear H1
    obtain ⟨k, hk, rfl, HS, HB⟩ := hrel
    by_cases hlt : k < nq
    case neg =>
      obtain rfl : k = nq := by omega
      have E : Hid (fsW nw nx bd nr F n S nt T k R = 0) := EW.out.trans HS.out
      go_wp2
      go_ret
      exact ⟨by rw [E.out]; rfl, HB.out.2⟩
    obtain ⟨g, o, rfl, _, hg, y0, y1, y2, y3, y4, y5, y6, y7, y8, y9⟩ := HB.out.1.2.2.2.at10 hlt
    obtain ⟨x0, hx0⟩ : ∃ x, R (k * 10) = x := ⟨_, rfl⟩
    rw [hx0] at y0
    obtain ⟨x1, hx1⟩ : ∃ x, R (k * 10 + 1) = x := ⟨_, rfl⟩
    rw [hx1] at y1
    obtain ⟨x2, hx2⟩ : ∃ x, R (k * 10 + 2) = x := ⟨_, rfl⟩
    rw [hx2] at y2
    obtain ⟨x3, hx3⟩ : ∃ x, R (k * 10 + 3) = x := ⟨_, rfl⟩
    rw [hx3] at y3
    obtain ⟨x4, hx4⟩ : ∃ x, R (k * 10 + 4) = x := ⟨_, rfl⟩
    rw [hx4] at y4
    obtain ⟨x5, hx5⟩ : ∃ x, R (k * 10 + 5) = x := ⟨_, rfl⟩
    rw [hx5] at y5
    obtain ⟨x6, hx6⟩ : ∃ x, R (k * 10 + 6) = x := ⟨_, rfl⟩
    rw [hx6] at y6
    obtain ⟨x7, hx7⟩ : ∃ x, R (k * 10 + 7) = x := ⟨_, rfl⟩
    rw [hx7] at y7
    obtain ⟨x8, hx8⟩ : ∃ x, R (k * 10 + 8) = x := ⟨_, rfl⟩
    rw [hx8] at y8
    obtain ⟨x9, hx9⟩ : ∃ x, R (k * 10 + 9) = x := ⟨_, rfl⟩
    rw [hx9] at y9
    have HX : Hid (R (k * 10) = x0 ∧ R (k * 10 + 1) = x1 ∧ R (k * 10 + 2) = x2 ∧ R (k * 10 + 3) = x3 ∧ R (k * 10 + 4) = x4 ∧ R (k * 10 + 5) = x5 ∧ R (k * 10 + 6) = x6 ∧ R (k * 10 + 7) = x7 ∧ R (k * 10 + 8) = x8 ∧ R (k * 10 + 9) = x9) := ⟨hx0, hx1, hx2, hx3, hx4, hx5, hx6, hx7, hx8, hx9⟩
    clear hx0 hx1 hx2 hx3 hx4 hx5 hx6 hx7 hx8 hx9
    obtain ⟨f, hf⟩ : ∃ f, opF x0 x1 x2 x3 x4 x5 = f := ⟨_, rfl⟩
    have HF : Hid (opF x0 x1 x2 x3 x4 x5 = f) := hf
    clear hf
    have HO : Hid (opF (R (k * 10)) (R (k * 10 + 1)) (R (k * 10 + 2)) (R (k * 10 + 3)) (R (k * 10 + 4)) (R (k * 10 + 5)) = f) := by
      obtain ⟨e0, e1, e2, e3, e4, e5, e6, e7, e8, e9⟩ := HX.out
      show opF (R (k * 10)) (R (k * 10 + 1)) (R (k * 10 + 2)) (R (k * 10 + 3)) (R (k * 10 + 4)) (R (k * 10 + 5)) = f
      rw [e0, e1, e2, e3, e4, e5]
      exact HF.out
    have HFT : Hid (Fits nx nt (R (k * 10 + 6)) (R (k * 10 + 7)) (R (k * 10 + 8)) (R (k * 10 + 9)) ↔ Fits nx nt x6 x7 x8 x9) := by
      obtain ⟨e0, e1, e2, e3, e4, e5, e6, e7, e8, e9⟩ := HX.out
      show Fits nx nt (R (k * 10 + 6)) (R (k * 10 + 7)) (R (k * 10 + 8)) (R (k * 10 + 9)) ↔ _
      rw [e6, e7, e8, e9]
    have K0 : Hid (Blk10 (wr.alloc (.cells #[.int .i64 x0, .int .i64 x1, .int .i64 x2, .int .i64 x3, .int .i64 x4, .int .i64 x5, .int .i64 x6, .int .i64 x7, .int .i64 x8, .int .i64 x9] 74)) wr.heap.size (.int .i64 x0) (.int .i64 x1) (.int .i64 x2) (.int .i64 x3) (.int .i64 x4) (.int .i64 x5) (.int .i64 x6) (.int .i64 x7) (.int .i64 x8) (.int .i64 x9) ∧ (LiesF (wr.alloc (.cells #[.int .i64 x0, .int .i64 x1, .int .i64 x2, .int .i64 x3, .int .i64 x4, .int .i64 x5, .int .i64 x6, .int .i64 x7, .int .i64 x8, .int .i64 x9] 74)) w.heap.size nw nx bd nr F n S V (.slice a0 nr c0) (.slice a1 n c1) nt T X (.slice a2 nt c2) nq R (.slice (some ⟨g, o, none⟩) nq c3) ∧ Below w.heap.size w (wr.alloc (.cells #[.int .i64 x0, .int .i64 x1, .int .i64 x2, .int .i64 x3, .int .i64 x4, .int .i64 x5, .int .i64 x6, .int .i64 x7, .int .i64 x8, .int .i64 x9] 74)))) := ⟨Blk10.new wr _ _ _ _ _ _ _ _ _ _ _, HB.out.1.later (below_alloc _ _), HB.out.2.alloc HB.out.2.size _⟩
    go_wp2_with fail
    generalize wr.alloc (.cells #[.int .i64 x0, .int .i64 x1, .int .i64 x2, .int .i64 x3, .int .i64 x4, .int .i64 x5, .int .i64 x6, .int .i64 x7, .int .i64 x8, .int .i64 x9] 74) = wb at K0 ⊢
    refine (implFsOp_any x0 x1 x2 x3 x4 x5 _).mono ?_
    rw [HF.out]
    rintro e w2 ⟨rfl, q2⟩
    have K2 : Hid (Blk10 w2 wr.heap.size (.int .i64 x0) (.int .i64 x1) (.int .i64 x2) (.int .i64 x3) (.int .i64 x4) (.int .i64 x5) (.int .i64 x6) (.int .i64 x7) (.int .i64 x8) (.int .i64 x9) ∧ (LiesF w2 w.heap.size nw nx bd nr F n S V (.slice a0 nr c0) (.slice a1 n c1) nt T X (.slice a2 nt c2) nq R (.slice (some ⟨g, o, none⟩) nq c3) ∧ Below w.heap.size w w2)) := ⟨K0.out.1.later q2, K0.out.2.1.later q2, K0.out.2.2.trans (q2.mono K0.out.2.2.size)⟩
    clear q2 HB K0 y0 y1 y2 y3 y4 y5 y6 y7 y8 y9
    by_cases hz : f = 0
    case neg =>
      have d' : (f != 0) = true := bne_iff_ne.2 hz
      have E : Hid (fsW nw nx bd nr F n S nt T nq R = f) := by
        have h1 : runF nx nt R k = f := runF_op HO.out hz
        exact EW.out.trans ((scan_stop HS.out (by rw [h1]; exact hz) hlt).trans h1)
      clear hz HF HS EW
      go_wp2
      go_ret
      exact ⟨by rw [E.out]; rfl, K2.out.2.2⟩
    subst hz
    obtain ⟨⟨p0, p1, p2, p3, p4, p5, p6⟩, _⟩ := K2.out.2.1.1
    obtain ⟨⟨y0, y1, y2, y3, y4, y5, y6, y7, y8, y9⟩, _⟩ := K2.out.1
    by_cases hfit : Fits nx nt x6 x7 x8 x9
    case neg =>
      have E : Hid (fsW nw nx bd nr F n S nt T nq R = 3) := by
        have h1 : runF nx nt R k = 3 := runF_no HO.out (fun q => hfit (HFT.out.1 q))
        exact EW.out.trans ((scan_stop HS.out (by rw [h1]; decide) hlt).trans h1)
      have HD : Hid (decide (Fits nx nt x6 x7 x8 x9) = false) := decide_eq_false hfit
      clear hfit HF HS EW HO HFT HX
      go_wp2_with fail
      refine (runFits_is x0 x1 x2 x3 x4 x5 x6 x7 x8 x9 nw nx bd _ _ _ nt _ false HD.out HZ.out.2.1 HZ.out.2.2 _).mono ?_
      rintro e w3 ⟨rfl, q3⟩
      have BB : Hid (Below w.heap.size w w3) := K2.out.2.2.trans (q3.mono K2.out.2.2.size)
      clear q3 p0 p1 p2 p3 p4 p5 p6 y0 y1 y2 y3 y4 y5 y6 y7 y8 y9 K2
      go_wp2
      go_ret
      exact ⟨by rw [E.out]; rfl, BB.out⟩
    have HS1 : Hid (scan (runF nx nt R) (k + 1) = 0) := scan_go HS.out (runF_ok HO.out (HFT.out.2 hfit))
    have HD : Hid (decide (Fits nx nt x6 x7 x8 x9) = true) := decide_eq_true hfit
    clear hfit HF HS EW HO HFT HX
    go_wp2_with fail
    refine (runFits_is x0 x1 x2 x3 x4 x5 x6 x7 x8 x9 nw nx bd _ _ _ nt _ true HD.out HZ.out.2.1 HZ.out.2.2 _).mono ?_
    rintro e w3 ⟨rfl, q3⟩
    have K3 : Hid (LiesF w3 w.heap.size nw nx bd nr F n S V (.slice a0 nr c0) (.slice a1 n c1) nt T X (.slice a2 nt c2) nq R (.slice (some ⟨g, o, none⟩) nq c3) ∧ Below w.heap.size w w3) := ⟨K2.out.2.1.later q3, K2.out.2.2.trans (q3.mono K2.out.2.2.size)⟩
    clear q3 p0 p1 p2 p3 p4 p5 p6 y0 y1 y2 y3 y4 y5 y6 y7 y8 y9 K2
    go_wp2
    go_roundw
    case rel => exact ⟨k + 1, by omega, by go_num, HS1, K3⟩
    case measure => simp [intOf]; omega
end Go.Proofs.YtpodcnmiaacndaaGreat

namespace Go.Proofs.YtpodcnmiaacndaaGreat
section
open Go.RowKit
def firstW (k : Nat → Int) (n : Nat) (key start : Int) (i : Nat) : Prop := i < n ∧ writeIs k key start i ∧ ∀ j, j < i → ¬ writeIs k key start j
theorem firstW.one {k : Nat → Int} {n : Nat} {a b : Int} {i j : Nat} (h : firstW k n a b i) (h' : firstW k n a b j) : i = j := by
  rcases Nat.lt_trichotomy i j with e | e | e
  · exact absurd h.2.1 (h'.2.2 i e)
  · exact e
  · exact absurd h'.2.1 (h.2.2 j e)
/-- What is told of one write: its numbers and true, or zeros and false. -/
def Told (q : Nat → Prop) (k : Nat → Int) (v : Value) : Prop :=
  (∃ i, q i ∧ v = .tuple #[.agg #[.int .i64 (k (i * 4)), .int .i64 (k (i * 4 + 1)), .int .i64 (k (i * 4 + 2)), .int .i64 (k (i * 4 + 3))], .bool true]) ∨ ((∀ i, ¬ q i) ∧ v = .tuple #[.agg #[.int .i64 0, .int .i64 0, .int .i64 0, .int .i64 0], .bool false])
set_option maxRecDepth 100000 in
set_option maxHeartbeats 4000000 in
theorem writeOf_anyO (B b oo N : Nat) (m : Int → Int → Option Int) (nl : Nat) (l : Nat → Int) (nw : Nat) (k : Nat → Int) (g : Nat) (u1 u2 : Value) (key start : Int) (w : World) (h : ColsO w B b oo N m nl l nw k g u1 u2) (hn : nw ≤ 200) :
    Calls Tryz.prog 179 #[.pointer (some ⟨b, oo, none⟩), .int .i64 key, .int .i64 start] w fun e w' => ∃ v, e = .returned v ∧ Told (firstW k nw key start) k v ∧ Below w.heap.size w w' := by
  obtain ⟨a1, c1, rfl⟩ := h.2.2.2.2.2.form
  have H : Hid (Row w B 4 nw k (.slice a1 nw c1)) := h.2.2.2.2.2.row.1
  have p1 := h.2.2.1.1.2.2
  have hb := h.2.2.1.lt
  clear h
  go_enter Tryz.func179, Tryz.ntmps179
  go_wp2
  clear p1
  go_loopw [15] (fun i wr => ∃ q : Nat, q ≤ nw ∧ i = .int .i64 q ∧ Hid (∀ j, j < q → ¬ writeIs k key start j) ∧ Hid (Below w.heap.size w wr ∧ Blk4 wr w.heap.size (.int .i64 0) (.int .i64 0) (.int .i64 0) (.int .i64 0))) (fun i _ => nw - (intOf i).toNat)
  case atStart => exact ⟨0, Nat.zero_le _, rfl, fun j hj => absurd hj (Nat.not_lt_zero j), below_alloc _ _, Blk4.new w _ _ _ _ _⟩
  case round =>
    obtain ⟨q, hq, rfl, HS, HB⟩ := hrel
    by_cases hlt : q < nw
    case neg =>
      obtain rfl : q = nw := by omega
      obtain ⟨⟨t0, t1, t2, t3⟩, f0, f1, f2, f3⟩ := HB.out.2
      go_wp2
      refine bodyPost_ret (v := .tuple #[.agg #[.int .i64 0, .int .i64 0, .int .i64 0, .int .i64 0], .bool false]) (by simp [results, Tryz.results179, go_sem, t0, t1, t2, t3]) rfl ⟨_, rfl, Or.inr ⟨fun i hi => HS.out i hi.1 hi.2.1, rfl⟩, ?_⟩
      exact (((HB.out.1.setCell (Nat.le_refl _) _).setCell (Nat.le_refl _) _).setCell (Nat.le_refl _) _).setCell (Nat.le_refl _) _
    obtain ⟨g', o, rfl, _, hg, x0, x1, x2, x3⟩ := (H.out.later HB.out.1).at4 hlt
    obtain ⟨n0, N0⟩ : ∃ x, k (q * 4) = x := ⟨_, rfl⟩
    rw [N0] at x0
    obtain ⟨n1, N1⟩ : ∃ x, k (q * 4 + 1) = x := ⟨_, rfl⟩
    rw [N1] at x1
    obtain ⟨n2, N2⟩ : ∃ x, k (q * 4 + 2) = x := ⟨_, rfl⟩
    rw [N2] at x2
    obtain ⟨n3, N3⟩ : ∃ x, k (q * 4 + 3) = x := ⟨_, rfl⟩
    rw [N3] at x3
    have hZ := HB.out.2.later (below_alloc wr (.cells #[.int .i64 n0, .int .i64 n1, .int .i64 n2, .int .i64 n3] 191))
    have hB2 := HB.out.1.alloc HB.out.1.size (.cells #[.int .i64 n0, .int .i64 n1, .int .i64 n2, .int .i64 n3] 191)
    have NN : Hid (k (q * 4) = n0 ∧ k (q * 4 + 1) = n1 ∧ k (q * 4 + 2) = n2 ∧ k (q * 4 + 3) = n3) := ⟨N0, N1, N2, N3⟩
    by_cases h0 : n0 = key
    case neg =>
      have E : Hid (∀ j, j < q + 1 → ¬ writeIs k key start j) := all_next HS.out (fun e => h0 (N0.symm.trans e.1))
      have HE : Hid (Below w.heap.size w (wr.alloc (.cells #[.int .i64 n0, .int .i64 n1, .int .i64 n2, .int .i64 n3] 191)) ∧ Blk4 (wr.alloc (.cells #[.int .i64 n0, .int .i64 n1, .int .i64 n2, .int .i64 n3] 191)) w.heap.size (.int .i64 0) (.int .i64 0) (.int .i64 0) (.int .i64 0)) := ⟨hB2, hZ⟩
      have d0 : (n0 == key) = false := beq_eq_false_iff_ne.2 h0
      clear N0 N1 N2 N3 NN HS h0 hZ hB2 HB
      go_wp2
      go_roundw
      case rel => exact ⟨q + 1, by omega, by go_num, E, HE⟩
      case measure => simp [intOf]; omega
    by_cases h2 : n2 = start
    case neg =>
      have E : Hid (∀ j, j < q + 1 → ¬ writeIs k key start j) := all_next HS.out (fun e => h2 (N2.symm.trans e.2))
      have HE : Hid (Below w.heap.size w (wr.alloc (.cells #[.int .i64 n0, .int .i64 n1, .int .i64 n2, .int .i64 n3] 191)) ∧ Blk4 (wr.alloc (.cells #[.int .i64 n0, .int .i64 n1, .int .i64 n2, .int .i64 n3] 191)) w.heap.size (.int .i64 0) (.int .i64 0) (.int .i64 0) (.int .i64 0)) := ⟨hB2, hZ⟩
      have d2 : (n2 == start) = false := beq_eq_false_iff_ne.2 h2
      clear N0 N1 N2 N3 NN HS h2 hZ hB2 HB
      subst h0
      go_wp2
      go_roundw
      case rel => exact ⟨q + 1, by omega, by go_num, E, HE⟩
      case measure => simp [intOf]; omega
    have E : Hid (writeIs k key start q) := ⟨N0.trans h0, N2.trans h2⟩
    have hne : ¬ wr.heap.size = w.heap.size := fun e => by have := HB.out.2.lt; omega
    obtain ⟨⟨t0, t1, t2, t3⟩, f0, f1, f2, f3⟩ := hZ
    clear N0 N1 N2 N3 HB
    subst h0 h2
    go_wp2
    refine bodyPost_ret (v := .tuple #[.agg #[.int .i64 n0, .int .i64 n1, .int .i64 n2, .int .i64 n3], .bool true]) (by simp [results, Tryz.results179, go_sem, t0, t1, t2, t3]) rfl ⟨_, rfl, Or.inl ⟨q, ⟨hlt, E.out, HS.out⟩, by rw [NN.out.1, NN.out.2.1, NN.out.2.2.1, NN.out.2.2.2]⟩, ?_⟩
    exact (((hB2.setCell (Nat.le_refl _) _).setCell (Nat.le_refl _) _).setCell (Nat.le_refl _) _).setCell (Nat.le_refl _) _
end

section
open Go.RowKit
end
end Go.Proofs.YtpodcnmiaacndaaGreat

namespace Go.Proofs.YtpodcnmiaacndaaGreat
open Go.RowKit

def firstL (l : Nat → Int) (nl : Nat) (key : Int) (i : Nat) : Prop := i < nl ∧ lockIs l key i ∧ ∀ j, j < i → ¬ lockIs l key j
theorem firstL.one {l : Nat → Int} {n : Nat} {a : Int} {i j : Nat} (h : firstL l n a i) (h' : firstL l n a j) : i = j := by
  rcases Nat.lt_trichotomy i j with e | e | e
  · exact absurd h.2.1 (h'.2.2 i e)
  · exact e
  · exact absurd h'.2.1 (h.2.2 j e)
/-- Key has a lock with a start that is not above ts. -/
def blocks (l : Nat → Int) (nl : Nat) (key ts : Int) : Prop := ∃ i, firstL l nl key i ∧ l (i * 5 + 1) ≤ ts
theorem first_or (l : Nat → Int) (nl : Nat) (key : Int) : (∀ i, i < nl → ¬ lockIs l key i) ∨ ∃ i, firstL l nl key i := by
  obtain ⟨r, h⟩ := FirstAt.get (lockIs l key) nl
  rcases h with ⟨_, h⟩ | ⟨i, h1, _, h2, h3⟩
  · exact Or.inl h
  · exact Or.inr ⟨i, h1, h2, h3⟩
end Go.Proofs.YtpodcnmiaacndaaGreat

namespace Go.Proofs.YtpodcnmiaacndaaGreat
open Go.RowKit

theorem firstW_or (k : Nat → Int) (nw : Nat) (key start : Int) : (∀ i, ¬ firstW k nw key start i) ∨ ∃ i, firstW k nw key start i := by
  obtain ⟨r, hr⟩ := FirstAt.get (writeIs k key start) nw
  rcases hr with ⟨_, h⟩ | ⟨i, h1, _, h2, h3⟩
  · exact Or.inl fun i hi => h i hi.1 hi.2.1
  · exact Or.inr ⟨i, h1, h2, h3⟩
/-- A write that is no rollback. -/
def doneW (k : Nat → Int) (n : Nat) (key start : Int) (i : Nat) : Prop := firstW k n key start i ∧ k (i * 4 + 3) ≠ 4
theorem write_noO (S : Sto) (b oo : Nat) (v0 v1 v2 : Value) (key start : Int) (w : World) (h : LiesO w b oo S v0 v1 v2) (hn : S.nw ≤ 200) (hq : ∀ i, ¬ firstW S.k S.nw key start i) :
    Calls Tryz.prog 117 #[.pointer (some ⟨b, oo, none⟩), .int .i64 key, .int .i64 start] w fun e w' => e = .returned (.int .i64 (-1)) ∧ w' = w := by
  obtain ⟨r, hr⟩ := FirstAt.get (writeIs S.k key start) S.nw
  refine (l2Write_isO S b oo v0 v1 v2 key start r w h hn hr).mono fun e w' ⟨he, hw⟩ => ⟨?_, hw⟩
  rcases hr with ⟨rfl, _⟩ | ⟨i, h1, _, h2, h3⟩
  · exact he
  · exact absurd ⟨h1, h2, h3⟩ (hq i)
theorem write_yesO (S : Sto) (b oo : Nat) (v0 v1 v2 : Value) (key start : Int) (i : Nat) (w : World) (h : LiesO w b oo S v0 v1 v2) (hn : S.nw ≤ 200) (hq : firstW S.k S.nw key start i) :
    Calls Tryz.prog 117 #[.pointer (some ⟨b, oo, none⟩), .int .i64 key, .int .i64 start] w fun e w' => e = .returned (.int .i64 i) ∧ w' = w :=
  l2Write_isO S b oo v0 v1 v2 key start i w h hn (Or.inr ⟨i, hq.1, rfl, hq.2.1, hq.2.2⟩)
/-- What became of it: 3 taken back, 2 done, 1 locked, 0 none. -/
def StatIs (nl : Nat) (l : Nat → Int) (nw : Nat) (k : Nat → Int) (key start r : Int) : Prop :=
  (∃ i, firstW k nw key start i ∧ ((k (i * 4 + 3) = 4 ∧ r = 3) ∨ (k (i * 4 + 3) ≠ 4 ∧ r = 2))) ∨
  ((∀ i, ¬ firstW k nw key start i) ∧ ((∃ i, firstL l nl key i ∧ ((l (i * 5 + 1) = start ∧ r = 1) ∨ (l (i * 5 + 1) ≠ start ∧ r = 0))) ∨ ((∀ i, i < nl → ¬ lockIs l key i) ∧ r = 0)))
theorem StatIs.get (nl : Nat) (l : Nat → Int) (nw : Nat) (k : Nat → Int) (key start : Int) : ∃ r, StatIs nl l nw k key start r := by
  rcases firstW_or k nw key start with hno | ⟨i, hi⟩
  · rcases first_or l nl key with hl | ⟨i, hi⟩
    · exact ⟨0, Or.inr ⟨hno, Or.inr ⟨hl, rfl⟩⟩⟩
    · by_cases e : l (i * 5 + 1) = start
      · exact ⟨1, Or.inr ⟨hno, Or.inl ⟨i, hi, Or.inl ⟨e, rfl⟩⟩⟩⟩
      · exact ⟨0, Or.inr ⟨hno, Or.inl ⟨i, hi, Or.inr ⟨e, rfl⟩⟩⟩⟩
  · by_cases e : k (i * 4 + 3) = 4
    · exact ⟨3, Or.inl ⟨i, hi, Or.inl ⟨e, rfl⟩⟩⟩
    · exact ⟨2, Or.inl ⟨i, hi, Or.inr ⟨e, rfl⟩⟩⟩
set_option maxRecDepth 100000 in
set_option maxHeartbeats 4000000 in
theorem doneOf_anyO (B b oo N : Nat) (m : Int → Int → Option Int) (nl : Nat) (l : Nat → Int) (nw : Nat) (k : Nat → Int) (g : Nat) (u1 u2 : Value) (key start : Int) (w : World) (h : ColsO w B b oo N m nl l nw k g u1 u2) (hn : nw ≤ 200) :
    Calls Tryz.prog 120 #[.pointer (some ⟨b, oo, none⟩), .int .i64 key, .int .i64 start] w fun e w' => ∃ v, e = .returned v ∧ Told (doneW k nw key start) k v ∧ Below w.heap.size w w' := by
  have HZ : Hid (ColsO (w.alloc (.cells #[.int .i64 0, .int .i64 0, .int .i64 0, .int .i64 0] 191)) B b oo N m nl l nw k g u1 u2) := h.later (below_alloc _ _)
  clear h
  rcases firstW_or k nw key start with hno | ⟨i, hi⟩
  · have HN : Hid (∀ i, ¬ firstW k nw key start i) := hno
    clear hno
    go_enter Tryz.func120, Tryz.ntmps120
    go_wp2_with fail
    refine (writeOf_anyO B b oo N m nl l nw k g u1 u2 key start _ HZ.out hn).mono ?_
    rintro e w1 ⟨v, rfl, hT, q1⟩
    obtain rfl : v = .tuple #[.agg #[.int .i64 0, .int .i64 0, .int .i64 0, .int .i64 0], .bool false] := by
      rcases hT with ⟨i, hi, _⟩ | ⟨_, e⟩
      · exact absurd hi (HN.out i)
      · exact e
    have Q : Hid (Blk4 w1 w.heap.size (.int .i64 0) (.int .i64 0) (.int .i64 0) (.int .i64 0) ∧ Below w.heap.size w w1) := ⟨(Blk4.new w _ _ _ _ _).later q1, (below_alloc _ _).trans (q1.mono (by simp))⟩
    obtain ⟨⟨t0, t1, t2, t3⟩, f0, f1, f2, f3⟩ := Q.out.1
    obtain ⟨⟨r0, r1, r2, r3⟩, _⟩ := (Q.out.1.put (.int .i64 0) (.int .i64 0) (.int .i64 0) (.int .i64 0)).alloc (.cells #[.int .i64 0, .int .i64 0, .int .i64 0, .int .i64 0] 191)
    have hne : ¬ w1.heap.size = w.heap.size := fun e => by have := Q.out.1.lt; omega
    have z1 := Q.out.1.lt
    clear hT q1
    go_wp2
    refine bodyPost_ret (v := .tuple #[.agg #[.int .i64 0, .int .i64 0, .int .i64 0, .int .i64 0], .bool false]) (by simp [results, Tryz.results120, go_sem, r0, r1, r2, r3]) rfl ⟨_, rfl, Or.inr ⟨fun i hi => HN.out i hi.1, rfl⟩, ?_⟩
    exact ((((Q.out.2.setCell (Nat.le_refl _) _).setCell (Nat.le_refl _) _).setCell (Nat.le_refl _) _).setCell (Nat.le_refl _) _).alloc (by simpa using Nat.le_of_lt z1) _
  · obtain ⟨n0, N0⟩ : ∃ x, k (i * 4) = x := ⟨_, rfl⟩
    obtain ⟨n1, N1⟩ : ∃ x, k (i * 4 + 1) = x := ⟨_, rfl⟩
    obtain ⟨n2, N2⟩ : ∃ x, k (i * 4 + 2) = x := ⟨_, rfl⟩
    obtain ⟨n3, N3⟩ : ∃ x, k (i * 4 + 3) = x := ⟨_, rfl⟩
    have NN : Hid (k (i * 4) = n0 ∧ k (i * 4 + 1) = n1 ∧ k (i * 4 + 2) = n2 ∧ k (i * 4 + 3) = n3) := ⟨N0, N1, N2, N3⟩
    have HI : Hid (firstW k nw key start i) := hi
    by_cases h3 : n3 = 4
    · have HN : Hid (∀ j, ¬ doneW k nw key start j) := fun j hj => by
        obtain rfl := firstW.one hj.1 hi
        exact hj.2 (N3.trans h3)
      clear N0 N1 N2 N3 hi
      subst h3
      go_enter Tryz.func120, Tryz.ntmps120
      go_wp2_with fail
      refine (writeOf_anyO B b oo N m nl l nw k g u1 u2 key start _ HZ.out hn).mono ?_
      rintro e w1 ⟨v, rfl, hT, q1⟩
      obtain rfl : v = .tuple #[.agg #[.int .i64 n0, .int .i64 n1, .int .i64 n2, .int .i64 4], .bool true] := by
        rcases hT with ⟨j, hj, e⟩ | ⟨h, _⟩
        · obtain rfl := firstW.one hj HI.out
          rw [e, NN.out.1, NN.out.2.1, NN.out.2.2.1, NN.out.2.2.2]
        · exact absurd HI.out (h _)
      have Q : Hid (Blk4 w1 w.heap.size (.int .i64 0) (.int .i64 0) (.int .i64 0) (.int .i64 0) ∧ Below w.heap.size w w1) := ⟨(Blk4.new w _ _ _ _ _).later q1, (below_alloc _ _).trans (q1.mono (by simp))⟩
      obtain ⟨⟨t0, t1, t2, t3⟩, f0, f1, f2, f3⟩ := Q.out.1
      obtain ⟨⟨r0, r1, r2, r3⟩, _⟩ := (Q.out.1.put (.int .i64 0) (.int .i64 0) (.int .i64 0) (.int .i64 0)).alloc (.cells #[.int .i64 n0, .int .i64 n1, .int .i64 n2, .int .i64 4] 191)
      have hne : ¬ w1.heap.size = w.heap.size := fun e => by have := Q.out.1.lt; omega
      have z1 := Q.out.1.lt
      clear hT q1
      go_wp2
      refine bodyPost_ret (v := .tuple #[.agg #[.int .i64 0, .int .i64 0, .int .i64 0, .int .i64 0], .bool false]) (by simp [results, Tryz.results120, go_sem, r0, r1, r2, r3]) rfl ⟨_, rfl, Or.inr ⟨HN.out, rfl⟩, ?_⟩
      exact ((((Q.out.2.setCell (Nat.le_refl _) _).setCell (Nat.le_refl _) _).setCell (Nat.le_refl _) _).setCell (Nat.le_refl _) _).alloc (by simpa using Nat.le_of_lt z1) _
    · have HD : Hid (doneW k nw key start i) := ⟨hi, by rw [N3]; exact h3⟩
      have d3 : (n3 == 4) = false := beq_eq_false_iff_ne.2 h3
      clear N0 N1 N2 N3 hi h3
      go_enter Tryz.func120, Tryz.ntmps120
      go_wp2_with fail
      refine (writeOf_anyO B b oo N m nl l nw k g u1 u2 key start _ HZ.out hn).mono ?_
      rintro e w1 ⟨v, rfl, hT, q1⟩
      obtain rfl : v = .tuple #[.agg #[.int .i64 n0, .int .i64 n1, .int .i64 n2, .int .i64 n3], .bool true] := by
        rcases hT with ⟨j, hj, e⟩ | ⟨h, _⟩
        · obtain rfl := firstW.one hj HI.out
          rw [e, NN.out.1, NN.out.2.1, NN.out.2.2.1, NN.out.2.2.2]
        · exact absurd HI.out (h _)
      have Q : Hid (Blk4 w1 w.heap.size (.int .i64 0) (.int .i64 0) (.int .i64 0) (.int .i64 0) ∧ Below w.heap.size w w1) := ⟨(Blk4.new w _ _ _ _ _).later q1, (below_alloc _ _).trans (q1.mono (by simp))⟩
      obtain ⟨⟨t0, t1, t2, t3⟩, f0, f1, f2, f3⟩ := Q.out.1
      obtain ⟨⟨r0, r1, r2, r3⟩, _⟩ := (Q.out.1.put (.int .i64 n0) (.int .i64 n1) (.int .i64 n2) (.int .i64 n3)).alloc (.cells #[.int .i64 n0, .int .i64 n1, .int .i64 n2, .int .i64 n3] 191)
      have hne : ¬ w1.heap.size = w.heap.size := fun e => by have := Q.out.1.lt; omega
      have z1 := Q.out.1.lt
      clear hT q1
      go_wp2
      refine bodyPost_ret (v := .tuple #[.agg #[.int .i64 n0, .int .i64 n1, .int .i64 n2, .int .i64 n3], .bool true]) (by simp [results, Tryz.results120, go_sem, r0, r1, r2, r3]) rfl ⟨_, rfl, Or.inl ⟨i, HD.out, by rw [NN.out.1, NN.out.2.1, NN.out.2.2.1, NN.out.2.2.2]⟩, ?_⟩
      exact ((((Q.out.2.setCell (Nat.le_refl _) _).setCell (Nat.le_refl _) _).setCell (Nat.le_refl _) _).setCell (Nat.le_refl _) _).alloc (by simpa using Nat.le_of_lt z1) _
set_option maxRecDepth 100000 in
set_option maxHeartbeats 4000000 in
theorem l4Status_isO (S : Sto) (b oo : Nat) (v0 v1 v2 : Value) (key start r : Int) (w : World) (h : LiesO w b oo S v0 v1 v2) (hl : S.nl ≤ 200) (hw : S.nw ≤ 200) (hr : StatIs S.nl S.l S.nw S.k key start r) :
    Calls Tryz.prog 116 #[.pointer (some ⟨b, oo, none⟩), .int .i64 key, .int .i64 start] w fun e w' => e = .returned (.int .i64 r) ∧ w' = w := by
  obtain ⟨a0, c0, a1, c1, a2, c2, rfl, rfl, rfl⟩ := h.2.form
  have H : Hid (LiesO w b oo S (.slice a0 S.nc c0) (.slice a1 S.nl c1) (.slice a2 S.nw c2)) := h
  have p1 := h.1.2.1
  have p2 := h.1.2.2
  have hb := h.lt
  clear h
  rcases hr with ⟨i, hi, hr⟩ | ⟨hno, hr⟩
  · obtain ⟨g, o, rfl, _, hg, x0, x1, x2, x3⟩ := H.out.2.2.2.at4 hi.1
    obtain ⟨n3, N3⟩ : ∃ x, S.k (i * 4 + 3) = x := ⟨_, rfl⟩
    rw [N3] at x3 hr
    have HI : Hid (firstW S.k S.nw key start i) := hi
    have hin : (i : Int) < (S.nw : Int) := by have := hi.1; omega
    clear N3 hi
    rcases hr with ⟨rfl, rfl⟩ | ⟨h3, rfl⟩
    · go_enter Tryz.func116, Tryz.ntmps116
      go_wp2_with fail
      refine (write_yesO S b oo _ _ _ key start i _ H.out hw HI.out).mono ?_
      rintro e w1 ⟨rfl, rfl⟩
      go_wp2
      go_ret
      exact ⟨rfl, rfl⟩
    · have d3 : (n3 == 4) = false := beq_eq_false_iff_ne.2 h3
      clear h3
      go_enter Tryz.func116, Tryz.ntmps116
      go_wp2_with fail
      refine (write_yesO S b oo _ _ _ key start i _ H.out hw HI.out).mono ?_
      rintro e w1 ⟨rfl, rfl⟩
      go_wp2
      go_ret
      exact ⟨rfl, rfl⟩
  · have HN : Hid (∀ i, ¬ firstW S.k S.nw key start i) := hno
    clear hno
    rcases hr with ⟨j, hj, hr⟩ | ⟨hno2, rfl⟩
    · obtain ⟨g, o, rfl, _, hg, x0, x1, x2, x3, x4⟩ := H.out.2.2.1.at5 hj.1
      obtain ⟨y1, Y1⟩ : ∃ x, S.l (j * 5 + 1) = x := ⟨_, rfl⟩
      rw [Y1] at x1 hr
      have HL : Hid (FirstAt (lockIs S.l key) S.nl j) := Or.inr ⟨j, hj.1, rfl, hj.2.1, hj.2.2⟩
      have hin : (j : Int) < (S.nl : Int) := by have := hj.1; omega
      clear Y1 hj
      rcases hr with ⟨rfl, rfl⟩ | ⟨h1, rfl⟩
      · go_enter Tryz.func116, Tryz.ntmps116
        go_wp2_with fail
        refine (write_noO S b oo _ _ _ key y1 _ H.out hw HN.out).mono ?_
        rintro e w1 ⟨rfl, rfl⟩
        go_wp2_with fail
        refine (l2Lock_isO S b oo _ _ _ key j _ H.out hl HL.out).mono ?_
        rintro e w1' ⟨rfl, rfl⟩
        go_wp2
        go_ret
        exact ⟨rfl, rfl⟩
      · have d1 : (y1 == start) = false := beq_eq_false_iff_ne.2 h1
        clear h1
        go_enter Tryz.func116, Tryz.ntmps116
        go_wp2_with fail
        refine (write_noO S b oo _ _ _ key start _ H.out hw HN.out).mono ?_
        rintro e w1 ⟨rfl, rfl⟩
        go_wp2_with fail
        refine (l2Lock_isO S b oo _ _ _ key j _ H.out hl HL.out).mono ?_
        rintro e w1' ⟨rfl, rfl⟩
        go_wp2
        go_ret
        exact ⟨rfl, rfl⟩
    · have HL : Hid (FirstAt (lockIs S.l key) S.nl (-1)) := Or.inl ⟨rfl, hno2⟩
      clear hno2
      go_enter Tryz.func116, Tryz.ntmps116
      go_wp2_with fail
      refine (write_noO S b oo _ _ _ key start _ H.out hw HN.out).mono ?_
      rintro e w1 ⟨rfl, rfl⟩
      go_wp2_with fail
      refine (l2Lock_isO S b oo _ _ _ key (-1) _ H.out hl HL.out).mono ?_
      rintro e w1' ⟨rfl, rfl⟩
      go_wp2
      go_ret
      exact ⟨rfl, rfl⟩
end Go.Proofs.YtpodcnmiaacndaaGreat

namespace Go.Proofs.YtpodcnmiaacndaaGreat
open Go.RowKit

/-- What l7For reads: the two lists of a world's groups. -/
def ForW (b : Nat) (vr vs : Value) (x : World) : Prop := x.cell? ⟨b, 3, none⟩ = some vr ∧ x.cell? ⟨b, 4, none⟩ = some vs
set_option maxRecDepth 100000 in
set_option maxHeartbeats 4000000 in
theorem l7For_at (nr : Nat) (F : Nat → Int) (n : Nat) (S : Nat → Sto) (V : Nat → Nat → Value) (ar : Option Addr) (cr g o c1 : Nat) (key : Int) (j b : Nat) (w : World) (h : LiesW w b nr F n S V (.slice ar nr cr) (.slice (some ⟨g, o, none⟩) n c1)) (hr : nr ≤ 6) (hj : AtR nr F key j) (hjn : j < n) :
    Calls Tryz.prog 115 #[.pointer (some ⟨b, 3, none⟩), .int .i64 key] w fun e w' => e = .returned (.pointer (some ⟨g, o + j * 3, none⟩)) ∧ w' = w.drew := by
  have H : Hid (LiesW w b nr F n S V (.slice ar nr cr) (.slice (some ⟨g, o, none⟩) n c1)) := h
  have HJ : Hid (AtR nr F key j) := hj
  have p := h.1
  clear h hj
  go_enter Tryz.func115, Tryz.ntmps115
  go_wp2_with fail
  refine wp_region_held_drew (S := ForW b (.slice ar nr cr) (.slice (some ⟨g, o, none⟩) n c1)) (by kernel_rfl) p (fun hS => ?_)
  refine tkH 0 ?_ hS (fun wx hx => ?_) ?_; rotate_left
  · obtain ⟨hx0, hx1⟩ := hx; go_simp; try with_reducible rfl
  refine tkH 1 ?_ hS (fun wx hx => ?_) ?_; rotate_left
  · obtain ⟨hx0, hx1⟩ := hx; go_simp; try with_reducible rfl
  refine tkH 2 ?_ hS (fun wx hx => ?_) ?_; rotate_left
  · obtain ⟨hx0, hx1⟩ := hx; go_simp; try with_reducible rfl
  refine tkH 3 ?_ hS (fun wx hx => ?_) ?_; rotate_left
  · obtain ⟨hx0, hx1⟩ := hx; go_simp; try with_reducible rfl
  refine tkH 4 ?_ hS (fun wx hx => ?_) ?_; rotate_left
  · obtain ⟨hx0, hx1⟩ := hx; go_simp; try with_reducible rfl
  refine tkH 5 ?_ hS (fun wx hx => ?_) ?_; rotate_left
  · obtain ⟨hx0, hx1⟩ := hx; go_simp; try with_reducible rfl
  refine tkH 6 ?_ hS (fun wx hx => ?_) ?_; rotate_left
  · obtain ⟨hx0, hx1⟩ := hx; go_simp; try with_reducible rfl
  refine tkH 7 ?_ hS (fun wx hx => ?_) ?_; rotate_left
  · obtain ⟨hx0, hx1⟩ := hx; go_simp; try with_reducible rfl
  refine tkH 8 ?_ hS (fun wx hx => ?_) ?_; rotate_left
  · obtain ⟨hx0, hx1⟩ := hx; go_simp; try with_reducible rfl
  refine rdH 9 (fun K hK => ?_)
  go_simp
  go_wp2_with fail
  refine (l6Route_is _ 0 nr F key j _ (H.out.2.1.drewN 1) HJ.out (by omega)).mono ?_
  rintro e w1 ⟨rfl, rfl⟩
  go_wp2_with fail
  refine hK.out _ _ hS (fun hS => ?_)
  clear hK K
  refine tkH 10 ?_ hS (fun wx hx => ?_) ?_; rotate_left
  · obtain ⟨hx0, hx1⟩ := hx; go_simp; try with_reducible rfl
  refine tkH 11 ?_ hS (fun wx hx => ?_) ?_; rotate_left
  · obtain ⟨hx0, hx1⟩ := hx; go_simp; try with_reducible rfl
  refine wpAnyH_done (by kernel_rfl) ?_ _
  clear hS
  go_simp
  go_wp2
  go_ret
  exact ⟨rfl, rfl⟩
end Go.Proofs.YtpodcnmiaacndaaGreat

namespace Go.Proofs.YtpodcnmiaacndaaGreat
open Go.RowKit Go.Lib
theorem infoz_Done : (Tryz.prog.info? 92).map (fun i => (i.zero, i.size, i.bytes)) = some (some (.agg #[.int .i64 0, .int .i64 0]), 2, 16) := by kernel_rfl

theorem sizeD : (Tryz.prog.info? 92).map (·.size) = some 2 := by kernel_rfl
theorem underD : Tryz.prog.underlying 50 = some (.slice 92) := by kernel_rfl

set_option maxHeartbeats 4000000 in
set_option maxRecDepth 100000 in
/-- There is room, i is a place ahead of the end: in place. -/
theorem insD_shift (w : World) (g n c i vb vc : Nat) (F : Nat → Int) (X : Nat → Int) (hb : Blkk w g 92 (c * 2)) (hroom : n + 1 ≤ c) (hc63 : c ≤ 9223372036854775807) (hi : i < n) (hF : ∀ p, p < n * 2 → w.cell? ⟨g, p, none⟩ = some (.int .i64 (F p)))
    (hvb : vb ≠ g) (hv : Blkk w vb 92 2) (hxs : ∀ p, p < 2 → w.cell? ⟨vb, p, none⟩ = some (.int .i64 (X p))) :
    Calls Tryz.prog 125 #[.slice (some ⟨g, 0, none⟩) n c, .int .i64 i, .slice (some ⟨vb, 0, none⟩) 1 vc] w fun e w' =>
      e = .returned (.slice (some ⟨g, 0, none⟩) (n + 1) c) ∧ w' = (w.drew.setCells g ((i + 1) * 2) (vals (fun p => F (i * 2 + p)) ((n - i) * 2))).setCells g (i * 2) (vals X 2) := by
  have hz2 : ¬ ((i : Int) = (n : Int)) := by omega
  have hov : ∀ lb cb, (callFunc 183 #[.slice (some ⟨vb, 0, none⟩) 1 vc, .slice (some ⟨g, (i + 1) * 2, none⟩) lb cb]).run Tryz.prog w = .ok (.value (.bool false)) w := fun lb cb => by
    rw [run_callFunc_extern Tryz.func183 (by kernel_rfl) (by kernel_rfl) (by kernel_rfl) (e := Extern.SlicesOverlaps.overlaps #[50, 50] #[4]) (by kernel_rfl),
      Lib.run_overlaps_apart w _ _ 92 underD 2 (fun w => by kernel_rfl) ⟨vb, 0, none⟩ ⟨g, (i + 1) * 2, none⟩ 1 vc lb cb hvb _ _ _ _ hv.shape hb.shape (by omega) (hv.frozen _) (hv.frozen _)]
    rfl
  have hw1 : IntKind.i64.wrap ((i : Int) + 1) = (i : Int) + 1 := by rw [IntKind.wrap_i64]; omega
  have hw2 : IntKind.i64.wrap ((n : Int) + 1) = (n : Int) + 1 := by rw [IntKind.wrap_i64]; omega
  have hb1 : (0 : Int) ≤ (i : Int) + 1 := by omega
  have hin : i ≤ n := by omega
  have htn : ((i : Int) + 1).toNat = i + 1 := by omega
  have htn' : ((n : Int) + 1).toNat = n + 1 := by omega
  have hb2 : ¬ (c = i + 1) := by omega
  have hb3 : (i : Int) ≤ (n : Int) + 1 := by omega
  have hb4 : ¬ (c = i) := by omega
  have hb5 : ¬ ((c : Int) < (n : Int) + 1) := by omega
  have hb6 : (0 : Int) ≤ (n : Int) + 1 := by omega
  have hb7 : (n : Int) + 1 ≤ (c : Int) := by omega
  have hb8 : (i : Int) + 1 ≤ (n : Int) + 1 := by omega
  have hm1 : (n + 1) * 2 ≤ c * 2 := Nat.mul_le_mul_right 2 hroom
  have hcp1 : ∀ ty dc sc, (Builtin.copy_ #[50, 50] ty #[.slice (some ⟨g, (i + 1) * 2, none⟩) (n - i) dc, .slice (some ⟨g, i * 2, none⟩) (n + 1 - i) sc]).run Tryz.prog w.drew = .ok (goInt (Nat.min (n + 1 - i) (n - i))) (w.drew.setCells g ((i + 1) * 2) (vals (fun p => F (i * 2 + p)) ((n - i) * 2))) := fun ty dc sc =>
    run_copyM w.drew _ _ ty 92 2 g _ _ dc ⟨g, i * 2, none⟩ _ sc _ underD sizeD (by rw [vals_length]; congr 1; simp only [Nat.min_def]; split <;> omega)
      (fun j v hj => by obtain ⟨h1, rfl⟩ := vals_inv hj; rw [Addr.add_lit]; exact hF _ (by omega))
      (fun j hj => by rw [vals_length] at hj; exact hb.any (by omega)) (fun j hj => hb.frozen _) (vals_one _ _)
  obtain ⟨W1, hW1⟩ : ∃ W1, W1 = w.drew.setCells g ((i + 1) * 2) (vals (fun p => F (i * 2 + p)) ((n - i) * 2)) := ⟨_, rfl⟩
  have hbW : Blkk W1 g 92 (c * 2) := by rw [hW1]; exact Blkk.sets _ _ _ hb
  have hcp2 : ∀ ty dc, (Builtin.copy_ #[50, 50] ty #[.slice (some ⟨g, i * 2, none⟩) (n + 1 - i) dc, .slice (some ⟨vb, 0, none⟩) 1 vc]).run Tryz.prog W1 = .ok (goInt (Nat.min 1 (n + 1 - i))) (W1.setCells g (i * 2) (vals X 2)) := fun ty dc =>
    run_copyM W1 _ _ ty 92 2 g _ _ dc ⟨vb, 0, none⟩ 1 vc _ underD sizeD (by rw [vals_length]; simp only [Nat.min_def]; split <;> omega)
      (fun j v hj => by
        obtain ⟨h1, rfl⟩ := vals_inv hj
        rw [Addr.add_lit, hW1, World.cell?_setCells_out g _ _ _ _ (fun h _ => absurd h hvb), Nat.zero_add]
        exact hxs j h1)
      (fun j hj => by rw [vals_length] at hj; exact hbW.any (by omega)) (fun j hj => hbW.frozen _) (vals_one _ _)
  subst hW1
  clear hF hxs hb hv hbW
  go_enter Tryz.func125, Tryz.ntmps125
  go_wp2_with (simp only [hov])
  go_region_law (refine step_copyM rfl _ _ 50 50 rfl _ _ (by simp [Act.eval, Act.put]) (by simp [Act.eval, Act.put]) (hcp1 _ _ _) ?_)
  go_wp2_with (simp only [hcp2])
  go_ret
  exact ⟨rfl, rfl⟩

set_option maxHeartbeats 4000000 in
set_option maxRecDepth 100000 in
/-- There is no room, i is a place ahead of the end: a new row. -/
theorem insD_grow (w : World) (g n c i vb vc : Nat) (F : Nat → Int) (X : Nat → Int) (hb : Blkk w g 92 (c * 2)) (hnc : n ≤ c) (hroom : c < n + 1) (hn : n ≤ 1048576) (hi : i < n) (hF : ∀ p, p < n * 2 → w.cell? ⟨g, p, none⟩ = some (.int .i64 (F p)))
    (hv : Blkk w vb 92 2) (hxs : ∀ p, p < 2 → w.cell? ⟨vb, p, none⟩ = some (.int .i64 (X p))) :
    Calls Tryz.prog 125 #[.slice (some ⟨g, 0, none⟩) n c, .int .i64 i, .slice (some ⟨vb, 0, none⟩) 1 vc] w fun e w' =>
      ∃ G ROW, (G ≤ maxLen ∧ n + 1 ≤ G ∧ ROW.size = G * 2 ∧ (∀ p, p < i * 2 → ROW[p]? = some (.int .i64 (F p)))) ∧ e = .returned (.slice (some ⟨w.heap.size, 0, none⟩) (n + 1) G) ∧ w' = (((w.alloc (.cells ROW 92)).drew.setCells w.heap.size (i * 2) (vals X 2)).drew).setCells w.heap.size ((i + 1) * 2) (vals (fun p => F (i * 2 + p)) ((n - i) * 2)) := by
  have hz2 : ¬ ((i : Int) = (n : Int)) := by omega
  have hz3 : (c : Int) < (n : Int) + 1 := by omega
  obtain ⟨i0, hi0, hz0, hzs, hzb⟩ := info_parts infoz_Done
  have hgw := hb.lt
  have hvw := hv.lt
  have hkk : (n : Int) + 1 - (i : Int) = ((n + 1 - i : Nat) : Int) := by omega
  have hik : i + (n + 1 - i) = n + 1 := by omega
  have hmi : i * 2 ≤ n * 2 := Nat.mul_le_mul_right 2 (by omega)
  have hold : (Builtin.firstCells i0.size i (.slice (some ⟨g, 0, none⟩) i c)).run Tryz.prog w.drew = .ok (vals F (i * 2)).toArray w.drew := by
    rw [hzs]
    exact run_firstCells_some w.drew 2 i ⟨g, 0, none⟩ i c (vals F (i * 2)) (by rw [vals_length]) (fun j v hj => by
      obtain ⟨h1, rfl⟩ := vals_inv hj
      rw [Addr.add_lit, Nat.zero_add]
      exact hF j (by omega))
  have hrz : ∀ ty, ∃ G ROW, (G ≤ maxLen ∧ n + 1 ≤ G ∧ ROW.size = G * 2 ∧ (∀ p, p < i * 2 → ROW[p]? = some (.int .i64 (F p)))) ∧ (Builtin.append_ #[50, 3] ty #[.slice (some ⟨g, 0, none⟩) i c, .int .i64 ((n : Int) + 1 - (i : Int))]).run Tryz.prog w = .ok (.slice (some ⟨w.heap.size, 0, none⟩) (n + 1) G) (w.drew.alloc (.cells ROW 92)) := fun ty => by
    have h := Lib.run_append_grow_zeros w 50 3 ty 92 i0 _ .i64 .i64 underD (by kernel_rfl) hi0 hz0 (some ⟨g, 0, none⟩) i c (vals F (i * 2)) hold (n + 1 - i) (by omega) (by omega) (by omega) (by omega) (by rw [hzb]; omega) (by rw [hzb, hik]; exact growslice_fits hroom (by omega))
    rw [hik] at h
    rw [hkk]
    have hG1 := grownCap_ge w (n + 1) c 92
    have hG2 := grownCap_le_maxLen w (n + 1) c 92 (by unfold maxLen; omega)
    refine ⟨_, _, ⟨hG2, hG1, ?_, ?_⟩, h⟩
    · simp [Builtin.zeroCells, Value.cells, vals_length]
      omega
    · intro p hp
      rw [Array.append_assoc, Array.getElem?_append_left (by simp [vals_length]; exact hp)]
      simp [vals, hp]
  obtain ⟨G, ROW, hG, hrw⟩ := hrz 50
  clear hrz
  obtain ⟨hG63, hGn, hRl, hR⟩ := hG
  have hm1 : (n + 1) * 2 ≤ G * 2 := Nat.mul_le_mul_right 2 hGn
  have hN : Blkk (w.alloc (.cells ROW 92)).drew w.heap.size 92 (G * 2) := (Blkk.made w ROW _ _ hRl).drew
  have hOb : ∀ j b, b < w.heap.size → (w.alloc (.cells ROW 92)).drew.cell? ⟨b, j, none⟩ = w.cell? ⟨b, j, none⟩ := fun j b h => by rw [drew_cell]; exact World.cell?_alloc_past (w := w) _ b j h
  have hcpA' : ∀ ty dc, (Builtin.copy_ #[50, 50] ty #[.slice (some ⟨w.heap.size, i * 2, none⟩) (n + 1 - i) dc, .slice (some ⟨vb, 0, none⟩) 1 vc]).run Tryz.prog (w.alloc (.cells ROW 92)).drew = .ok (goInt (Nat.min 1 (n + 1 - i))) ((w.alloc (.cells ROW 92)).drew.setCells w.heap.size (i * 2) (vals X 2)) := fun ty dc =>
    run_copyM _ _ _ ty 92 2 w.heap.size _ _ dc ⟨vb, 0, none⟩ 1 vc _ underD sizeD (by rw [vals_length]; simp only [Nat.min_def]; split <;> omega)
      (fun j v hj => by
        obtain ⟨h1, rfl⟩ := vals_inv hj
        rw [Addr.add_lit, hOb _ _ hvw, Nat.zero_add]
        exact hxs j h1)
      (fun j hj => by rw [vals_length] at hj; exact hN.any (by omega)) (fun j hj => hN.frozen _) (vals_one _ _)
  obtain ⟨W2, hW2⟩ : ∃ W2, W2 = (w.alloc (.cells ROW 92)).drew.setCells w.heap.size (i * 2) (vals X 2) := ⟨_, rfl⟩
  have hN2 : Blkk W2.drew w.heap.size 92 (G * 2) := by rw [hW2]; exact (Blkk.sets _ _ _ hN).drew
  have hcpB' : ∀ ty dc sc, (Builtin.copy_ #[50, 50] ty #[.slice (some ⟨w.heap.size, (i + 1) * 2, none⟩) (n - i) dc, .slice (some ⟨g, i * 2, none⟩) (n - i) sc]).run Tryz.prog W2.drew = .ok (goInt (Nat.min (n - i) (n - i))) (W2.drew.setCells w.heap.size ((i + 1) * 2) (vals (fun p => F (i * 2 + p)) ((n - i) * 2))) := fun ty dc sc =>
    run_copyM _ _ _ ty 92 2 w.heap.size _ _ dc ⟨g, i * 2, none⟩ _ sc _ underD sizeD (by rw [vals_length]; congr 1; simp only [Nat.min_def]; split <;> omega)
      (fun j v hj => by
        obtain ⟨h1, rfl⟩ := vals_inv hj
        rw [Addr.add_lit, drew_cell, hW2, World.cell?_setCells_out _ _ _ _ _ (fun h _ => absurd h (show g ≠ w.heap.size by omega)), hOb _ _ hgw]
        exact hF _ (by omega))
      (fun j hj => by rw [vals_length] at hj; exact hN2.any (by omega)) (fun j hj => hN2.frozen _) (vals_one _ _)
  clear hN2
  subst hW2
  have hG63' : G ≤ 9223372036854775807 := by unfold maxLen at hG63; omega
  have hGi : ¬ (G = i) := by omega
  have hGim : ¬ (G = i + 1) := by omega
  have hci : ¬ (c = i) := by omega
  have hw1 : IntKind.i64.wrap ((i : Int) + 1) = (i : Int) + 1 := by rw [IntKind.wrap_i64]; omega
  have hw2 : IntKind.i64.wrap ((n : Int) + 1) = (n : Int) + 1 := by rw [IntKind.wrap_i64]; omega
  have hw3 : IntKind.i64.wrap ((n : Int) + 1 - (i : Int)) = (n : Int) + 1 - (i : Int) := by rw [IntKind.wrap_i64]; omega
  have hb1 : (0 : Int) ≤ (i : Int) + 1 := by omega
  have hin : i ≤ n := by omega
  have htn : ((i : Int) + 1).toNat = i + 1 := by omega
  have hb3 : (i : Int) ≤ (n : Int) := by omega
  have hb8 : (i : Int) + 1 ≤ (n : Int) + 1 := by omega
  have hb9 : (i : Int) ≤ (n : Int) + 1 := by omega
  refine Calls.mono (R := fun e w' => e = .returned (.slice (some ⟨w.heap.size, 0, none⟩) (n + 1) G) ∧ w' = (((w.alloc (.cells ROW 92)).drew.setCells w.heap.size (i * 2) (vals X 2)).drew).setCells w.heap.size ((i + 1) * 2) (vals (fun p => F (i * 2 + p)) ((n - i) * 2))) ?_ (fun e w' h => ⟨G, ROW, ⟨hG63, hGn, hRl, hR⟩, h.1, h.2⟩)
  clear hkk hik hold hRl hR hG63 hN hOb hF hxs hb hv hi0 hz0 hzs hzb hm1 hmi
  go_enter Tryz.func125, Tryz.ntmps125
  go_wp2_with (first | (at_builtin; refine wpList_appM _ rfl _ _ 50 3 rfl (.slice (some ⟨g, 0, none⟩) i c) (.int .i64 ((n : Int) + 1 - (i : Int))) rfl rfl hrw ?_) | (simp only [hcpA']))
  go_region_law (refine step_copyM rfl _ _ 50 50 rfl _ _ (by simp [Act.eval, Act.put]) (by simp [Act.eval, Act.put]) (hcpB' _ _ _) ?_)
  go_wp2
  go_ret
  exact ⟨rfl, rfl⟩

/-- What slices.Insert answers: the row with the struct at place i; nothing else has turned but the row's own block. -/
def InsD (w : World) (B n i : Nat) (F : Nat → Int) (xs : List Int) (v : Value) (e : Ending) (w' : World) : Prop :=
  ∃ ao cp, e = .returned (.slice ao (n + 1) cp) ∧ Own w' B 92 2 (n + 1) (insF F 2 n i xs) (.slice ao (n + 1) cp) ∧ w.grownBy w' v.ownBlock ∧ ∀ q, (Value.slice ao (n + 1) cp).ownBlock = some q → v.ownBlock = some q ∨ w.heap.size ≤ q
set_option maxHeartbeats 4000000 in
set_option maxRecDepth 100000 in
theorem insD_end (w : World) (B n vb vc : Nat) (F : Nat → Int) (xs : List Int) (v : Value) (hx : xs.length = 2) (h : Own w B 92 2 n F v) (hB : B ≤ w.heap.size) (hn : n < 1048576)
    (hv : Blkk w vb 92 2) (hxs : ∀ p, p < 2 → w.cell? ⟨vb, p, none⟩ = some (.int .i64 (xs.getD p 0))) :
    Calls Tryz.prog 125 #[v, .int .i64 n, .slice (some ⟨vb, 0, none⟩) 1 vc] w (InsD w B n n F xs v) := by
  have hrow : Row w 0 2 1 (fun p => xs.getD p 0) (.slice (some ⟨vb, 0, none⟩) 1 vc) := ⟨_, _, rfl, fun _ => ⟨vb, 0, rfl, Nat.zero_le _, hv.lt, fun p hp => by rw [Nat.zero_add]; exact hxs p (by omega)⟩⟩
  have hown : OwnM w B 92 2 v n (nums F (n * 2)) := by unfold OwnM; rw [nums_vals]; exact h
  obtain ⟨i0, hi0, hz0, hzs, hzb⟩ := info_parts infoz_Done
  have hend : ∀ ao cp w', OwnM w' B 92 2 (.slice ao (n + 1) cp) (n + 1) (nums F (n * 2) ++ nums (fun p => xs.getD p 0) (1 * 2)) → w.grownBy w' v.ownBlock → (∀ q, (Value.slice ao (n + 1) cp).ownBlock = some q → v.ownBlock = some q ∨ w.heap.size ≤ q) → InsD w B n n F xs v (.returned (.slice ao (n + 1) cp)) w' := fun ao cp w' h1 h2 h3 => by
    refine ⟨ao, cp, rfl, (h1.own (by simp [nums_length]; omega)).congr (fun p hp => ?_), h2, h3⟩
    by_cases a1 : p < n * 2
    · rw [insF_lt a1, List.getD_eq_getElem?_getD, List.getElem?_append_left (by rw [nums_length]; exact a1)]
      simp [nums, a1]
    · have := insF_at (F := F) (n := n) (i := n) (p := p - n * 2) hx (by omega)
      rw [show n * 2 + (p - n * 2) = p by omega] at this
      rw [this, List.getD_eq_getElem?_getD, List.getElem?_append_right (by rw [nums_length]; omega), nums_length]
      simp [nums, show p - n * 2 < 2 by omega]
  obtain ⟨POST, hP⟩ : ∃ POST, POST = InsD w B n n F xs v := ⟨_, rfl⟩
  rw [← hP] at hend ⊢
  obtain ⟨ao, cp, rfl⟩ := h.form
  have hrun : ∀ ty, ∃ ao' cp' w', (Builtin.append_ #[50, 50] ty #[.slice ao n cp, .slice (some ⟨vb, 0, none⟩) 1 vc]).run Tryz.prog w = .ok (.slice ao' (n + 1) cp') w' ∧ POST (.returned (.slice ao' (n + 1) cp')) w' := fun ty => by
    obtain ⟨ao', cp', w', h1, h2, h3⟩ := run_app 50 ty 92 i0 _ 2 _ underD hi0 hz0 hzs hzb rfl (by omega) (by omega) w B n _ _ hown 0 1 _ _ hrow (by omega) hB
    have h4 := app_block 50 ty 92 i0 _ 2 _ underD hi0 hz0 hzs hzb (by omega) w B n F (fun p => xs.getD p 0) _ h (by omega) ⟨vb, 0, none⟩ vc (fun p hp => by rw [Addr.add_lit, Nat.zero_add]; exact hxs p hp) h1
    exact ⟨ao', cp', w', h1, hend _ _ _ h2 h3 h4⟩
  obtain ⟨ao', cp', w', hr, hfin⟩ := hrun 50
  clear hrun hend hown hrow hv hxs hP hi0 hz0 hzs hzb
  rcases h.parts with ⟨q, rfl⟩ | ⟨g, cap, q, _, hnc, hcm, _⟩
  · cases q
    clear h
    go_enter Tryz.func125, Tryz.ntmps125
    go_wp2_with (at_builtin; refine wpList_appM _ rfl _ _ 50 50 rfl (.slice none 0 0) (.slice (some ⟨vb, 0, none⟩) 1 vc) rfl rfl hr ?_)
    exact hfin
  · cases q
    clear h
    unfold maxLen at hcm
    by_cases hcn : cp = n
    · subst hcn
      go_enter Tryz.func125, Tryz.ntmps125
      go_wp2_with (at_builtin; refine wpList_appM _ rfl _ _ 50 50 rfl (.slice (some ⟨g, 0, none⟩) cp cp) (.slice (some ⟨vb, 0, none⟩) 1 vc) rfl rfl hr ?_)
      exact hfin
    · go_enter Tryz.func125, Tryz.ntmps125
      go_wp2_with (at_builtin; refine wpList_appM _ rfl _ _ 50 50 rfl (.slice (some ⟨g, 0, none⟩) n cp) (.slice (some ⟨vb, 0, none⟩) 1 vc) rfl rfl hr ?_)
      exact hfin
/-- slices.Insert of one struct. -/
theorem insD_any (w : World) (B n i vb vc : Nat) (F : Nat → Int) (xs : List Int) (v : Value) (hx : xs.length = 2) (h : Own w B 92 2 n F v) (hB : B ≤ w.heap.size) (hn : n < 1048576) (hi : i ≤ n)
    (hvb : v.ownBlock ≠ some vb) (hv : Blkk w vb 92 2) (hxs : ∀ p, p < 2 → w.cell? ⟨vb, p, none⟩ = some (.int .i64 (xs.getD p 0))) :
    Calls Tryz.prog 125 #[v, .int .i64 i, .slice (some ⟨vb, 0, none⟩) 1 vc] w (InsD w B n i F xs v) := by
  rcases Nat.eq_or_lt_of_le hi with rfl | hi
  · exact insD_end w B _ vb vc F xs v hx h hB hn hv hxs
  · rcases h.parts with ⟨rfl, rfl⟩ | ⟨g, c, rfl, hg, hnc, hcm, hb, hF⟩
    · exact absurd hi (Nat.not_lt_zero _)
    · have hgv : vb ≠ g := fun e => hvb (by rw [e]; rfl)
      have hm3 : (n - i) * 2 + i * 2 = n * 2 := by rw [← Nat.add_mul]; congr 1; omega
      by_cases hr : n + 1 ≤ c
      · have hm1 : (n + 1) * 2 ≤ c * 2 := Nat.mul_le_mul_right 2 hr
        refine (insD_shift w g n c i vb vc F (fun p => xs.getD p 0) hb hr (by unfold maxLen at hcm; omega) hi hF hgv hv hxs).mono ?_
        rintro e w' ⟨rfl, rfl⟩
        have hb1 := Blkk.sets (vals (fun p => F (i * 2 + p)) ((n - i) * 2)) ((i + 1) * 2) w.drew hb
        refine ⟨_, _, rfl, own_of (Blkk.sets _ _ _ hb1) hg hr hcm (ins_cells hx (Nat.le_of_lt hi) (fun p hp => ?_) (fun p hp => ?_) (fun p hp => ?_)), ?_⟩
        · rw [World.cell?_setCells_out g _ _ _ _ (fun _ _ => Or.inl hp), World.cell?_setCells_out g _ _ _ _ (fun _ _ => Or.inl (by show p < _; omega))]
          exact hF p (by omega)
        · exact sets_in g (i * 2) 2 (fun p => xs.getD p 0) _ (fun j hj => hb1.any (by omega)) hp
        · rw [World.cell?_setCells_out g _ _ _ _ (fun _ _ => Or.inr (by rw [vals_length]; show _ ≤ (i + 1) * 2 + p; omega))]
          exact sets_in g ((i + 1) * 2) ((n - i) * 2) (fun p => F (i * 2 + p)) w.drew (fun j hj => hb.drew.any (by omega)) hp
        · exact ⟨grown_trans (grown_trans (grown_drew w _) (grown_sets g _ _ _)) (grown_sets g _ _ _), fun q hq => Or.inl hq⟩
      · refine (insD_grow w g n c i vb vc F (fun p => xs.getD p 0) hb hnc (by omega) (by omega) hi hF hv hxs).mono ?_
        rintro e w' ⟨G, ROW, ⟨hG1, hG2, hG3, hG4⟩, rfl, rfl⟩
        have hm1 : (n + 1) * 2 ≤ G * 2 := Nat.mul_le_mul_right 2 hG2
        have hN : Blkk (w.alloc (.cells ROW 92)).drew w.heap.size 92 (G * 2) := (Blkk.made w ROW _ _ hG3).drew
        have hb1 : Blkk (((w.alloc (.cells ROW 92)).drew.setCells w.heap.size (i * 2) (vals (fun p => xs.getD p 0) 2)).drew) w.heap.size 92 (G * 2) := (Blkk.sets (vals (fun p => xs.getD p 0) 2) (i * 2) _ hN).drew
        refine ⟨_, _, rfl, own_of (Blkk.sets _ _ _ hb1) hB hG2 hG1 (ins_cells hx (Nat.le_of_lt hi) (fun p hp => ?_) (fun p hp => ?_) (fun p hp => ?_)), ?_⟩
        · rw [World.cell?_setCells_out _ _ _ _ _ (fun _ _ => Or.inl (by show p < _; omega))]
          rw [drew_cell, World.cell?_setCells_out _ _ _ _ _ (fun _ _ => Or.inl hp), drew_cell, World.cell?_alloc_at (w := w) ROW _ w.heap.size p rfl]
          exact hG4 p hp
        · rw [World.cell?_setCells_out _ _ _ _ _ (fun _ _ => Or.inl (by show i * 2 + p < _; omega))]
          rw [drew_cell]
          exact sets_in w.heap.size (i * 2) 2 (fun p => xs.getD p 0) ((w.alloc (.cells ROW 92)).drew) (fun j hj => hN.any (by omega)) hp
        · exact sets_in w.heap.size ((i + 1) * 2) ((n - i) * 2) (fun p => F (i * 2 + p)) _ (fun j hj => hb1.any (by omega)) hp
        · have g1 : w.grownBy (w.alloc (.cells ROW 92)).drew (some g) := grown_trans (grown_alloc w _ _) (grown_drew _ _)
          have g2 := grown_over g1 (grown_sets w.heap.size (vals (fun p => xs.getD p 0) 2) (i * 2) _) (Nat.le_refl _)
          have g3 := grown_trans g2 (grown_drew _ _)
          exact ⟨grown_over g3 (grown_sets w.heap.size (vals (fun p => F (i * 2 + p)) ((n - i) * 2)) ((i + 1) * 2) _) (Nat.le_refl _), fun q hq => by cases hq; exact Or.inr (Nat.le_refl _)⟩
end Go.Proofs.YtpodcnmiaacndaaGreat

namespace Go.Proofs.YtpodcnmiaacndaaGreat
open Go.RowKit

set_option maxRecDepth 100000 in
set_option maxHeartbeats 1000000 in
theorem compareDones_is (x0 x1 y0 y1 : Int) (r : Int) (hr : orOf (cmpOf x1 y1) (cmpOf x0 y0) = r) (w : World) :
    Calls Tryz.prog 78 #[.agg #[.int .i64 x0, .int .i64 x1], .agg #[.int .i64 y0, .int .i64 y1]] w fun e w' => e = .returned (.int .i64 r) ∧ Below w.heap.size w w' := by
  obtain ⟨c0, C0⟩ : ∃ c, Hid (cmpOf x1 y1 = c) := ⟨_, rfl⟩
  obtain ⟨c1, C1⟩ : ∃ c, Hid (cmpOf x0 y0 = c) := ⟨_, rfl⟩
  have HR : Hid (orOf c0 c1 = r) := by unfold Hid; rw [← C0.out, ← C1.out]; exact hr
  clear hr
  go_enter Tryz.func78, Tryz.ntmps78
  go_wp2_with fail
  have h0 : Four w x0 x1 y0 y1 (((w.alloc (.cells #[.int .i64 x0, .int .i64 x1] 92)).alloc (.cells #[.int .i64 y0, .int .i64 y1] 92)).drew) := ⟨by simp, by simp, by simp, by simp, ((below_alloc _ _).alloc (by simp) _).drew⟩
  refine wp_region_held_drew (S := Four w x0 x1 y0 y1) (by kernel_rfl) h0 (fun hS => ?_)
  clear h0
  refine tkH 0 ?_ hS (fun wx hx => ?_) ?_; rotate_left
  · obtain ⟨hx0, hx1, hx2, hx3, _⟩ := hx; go_simp; try with_reducible rfl
  refine tkH 1 ?_ hS (fun wx hx => ?_) ?_; rotate_left
  · obtain ⟨hx0, hx1, hx2, hx3, _⟩ := hx; go_simp; try with_reducible rfl
  refine tkH 2 ?_ hS (fun wx hx => ?_) ?_; rotate_left
  · obtain ⟨hx0, hx1, hx2, hx3, _⟩ := hx; go_simp; try with_reducible rfl
  refine tkH 3 ?_ hS (fun wx hx => ?_) ?_; rotate_left
  · obtain ⟨hx0, hx1, hx2, hx3, _⟩ := hx; go_simp; try with_reducible rfl
  refine tkH 5 ?_ hS (fun wx hx => ?_) ?_; rotate_left
  · obtain ⟨hx0, hx1, hx2, hx3, _⟩ := hx; go_simp; try with_reducible rfl
  refine tkH 6 ?_ hS (fun wx hx => ?_) ?_; rotate_left
  · obtain ⟨hx0, hx1, hx2, hx3, _⟩ := hx; go_simp; try with_reducible rfl
  refine tkH 7 ?_ hS (fun wx hx => ?_) ?_; rotate_left
  · obtain ⟨hx0, hx1, hx2, hx3, _⟩ := hx; go_simp; try with_reducible rfl
  refine tkH 8 ?_ hS (fun wx hx => ?_) ?_; rotate_left
  · obtain ⟨hx0, hx1, hx2, hx3, _⟩ := hx; go_simp; try with_reducible rfl
  refine rdH 4 (fun K hK => ?_)
  go_simp
  go_wp2_with fail
  refine (compare_is _ _ c0 C0.out _).mono ?_
  rintro e w1 ⟨rfl, rfl⟩
  have hS' := hS
  go_wp2_with fail
  refine hK.out _ _ hS' (fun hS => ?_)
  clear hK K hS'
  refine rdH 9 (fun K hK => ?_)
  go_simp
  go_wp2_with fail
  refine (compare_is _ _ c1 C1.out _).mono ?_
  rintro e w1 ⟨rfl, rfl⟩
  have hS' := hS
  go_wp2_with fail
  refine hK.out _ _ hS' (fun hS => ?_)
  clear hK K hS'
  refine rdH 10 (fun K hK => ?_)
  go_simp
  refine hK.out _ _ (hS.later (below_alloc_drew _ _)) (fun hS => ?_)
  clear hK K
  refine rdH 11 (fun K hK => ?_)
  go_simp
  go_wp2_with fail
  refine (or_is c0 c1 r _ HR.out _ (two_cells _ _ (by simp) _ _ _).1 (two_cells _ _ (by simp) _ _ _).2).mono ?_
  rintro e w1 ⟨rfl, rfl⟩
  have hS' := hS
  go_wp2_with fail
  refine hK.out _ _ hS' (fun hS => ?_)
  clear hK K hS'
  refine tkH 12 ?_ hS (fun wx hx => ?_) ?_; rotate_left
  · obtain ⟨hx0, hx1, hx2, hx3, _⟩ := hx; go_simp; try with_reducible rfl
  refine wpAnyH_done (by kernel_rfl) ?_ _
  go_simp
  go_wp2
  go_ret
  exact ⟨rfl, hS.2.2.2.2⟩
theorem or_negD (a b x y : Int) : orOf (cmpOf a x) (cmpOf b y) < 0 ↔ a < x ∨ a = x ∧ b < y := by
  unfold orOf cmpOf
  constructor
  · intro h
    by_cases h1 : a < x
    · exact Or.inl h1
    · by_cases h2 : x < a
      · simp [h1, h2] at h
      · refine Or.inr ⟨by omega, ?_⟩
        simp [h1, h2] at h
        by_cases h3 : b < y
        · exact h3
        · simp [h3] at h
          split at h <;> omega
  · intro h
    rcases h with h | ⟨rfl, h⟩
    · simp [h]
    · simp [h]
theorem or_zeroD (a b x y : Int) : orOf (cmpOf a x) (cmpOf b y) = 0 ↔ a = x ∧ b = y := by
  unfold orOf cmpOf
  constructor
  · intro h
    by_cases h1 : a < x
    · simp [h1] at h
    · by_cases h2 : x < a
      · simp [h1, h2] at h
      · refine ⟨by omega, ?_⟩
        simp [h1, h2] at h
        by_cases h3 : b < y
        · simp [h3] at h
        · by_cases h4 : y < b
          · simp [h3, h4] at h
          · omega
  · rintro ⟨rfl, rfl⟩
    simp
theorem lt_cellD {w : World} {p : Addr} {v : Value} (h : w.cell? p = some v) : p.block < w.heap.size := World.block_lt_of_cell? w p h
def placeAtD (p : Nat → Prop) (n k : Nat) : Prop := k ≤ n ∧ (∀ j, j < k → p j) ∧ (k < n → ¬ p k)
def aheadD (F : Nat → Int) (a b : Int) (j : Nat) : Prop := F (j * 2 + 1) < b ∨ F (j * 2 + 1) = b ∧ F (j * 2) < a
def AD (w : World) (B n : Nat) (F : Nat → Int) (ao : Option Addr) (cp : Nat) (x0 x1 : Int) (X : World) : Prop :=
  (X.cell? ⟨w.heap.size, 0, none⟩ = some (.int .i64 x0) ∧ X.cell? ⟨w.heap.size, 1, none⟩ = some (.int .i64 x1)) ∧ Row X B 2 n F (.slice ao n cp) ∧ Below w.heap.size w X
theorem AD.drew {w X : World} {B n : Nat} {F : Nat → Int} {ao : Option Addr} {cp : Nat} {x0 x1 : Int} (h : AD w B n F ao cp x0 x1 X) : AD w B n F ao cp x0 x1 X.drew := ⟨h.1, h.2.1, h.2.2.drew⟩
theorem AD.later {w X X' : World} {B n : Nat} {F : Nat → Int} {ao : Option Addr} {cp : Nat} {x0 x1 : Int} (h : AD w B n F ao cp x0 x1 X) (_ : Row w B 2 n F (.slice ao n cp)) (hb : Below X.heap.size X X') : AD w B n F ao cp x0 x1 X' :=
  ⟨⟨(hb.cell (lt_cellD h.1.1)).trans h.1.1, (hb.cell (lt_cellD h.1.2)).trans h.1.2⟩, h.2.1.later hb, h.2.2.trans (hb.mono h.2.2.size)⟩
/-- What the search answers. -/
def FoundD (w : World) (n : Nat) (F : Nat → Int) (x0 x1 : Int) (e : Ending) (w' : World) : Prop := ∃ (k : Nat) (r : Bool), e = .returned (.tuple #[.int .i64 k, .bool r]) ∧ placeAtD (aheadD F x0 x1) n k ∧ (r = true ↔ k < n ∧ F (k * 2) = x0 ∧ F (k * 2 + 1) = x1) ∧ Below w.heap.size w w'
set_option maxRecDepth 100000 in
set_option maxHeartbeats 4000000 in
theorem searchD_any (n : Nat) (F : Nat → Int) (ao : Option Addr) (cp : Nat) (B : Nat) (x0 x1 : Int) (w : World) (h : Row w B 2 n F (.slice ao n cp)) (hn : n ≤ 1000) (hmono : ∀ i j, i ≤ j → j < n → aheadD F x0 x1 j → aheadD F x0 x1 i) :
    Calls Tryz.prog 182 #[.slice ao n cp, .agg #[.int .i64 x0, .int .i64 x1], .func (.func 78) #[] #[]] w (FoundD w n F x0 x1) := by
  have H : Hid (Row w B 2 n F (.slice ao n cp)) := h
  have HM : Hid (∀ i j, i ≤ j → j < n → aheadD F x0 x1 j → aheadD F x0 x1 i) := hmono
  clear h hmono
  go_enter Tryz.func182, Tryz.ntmps182
  go_wp2
  go_loopw [9, 10] (fun a b wr => ∃ i j : Nat, i ≤ j ∧ j ≤ n ∧ a = .int .i64 i ∧ b = .int .i64 j ∧ Hid (∀ q, q < i → aheadD F x0 x1 q) ∧ Hid (∀ q, j ≤ q → q < n → ¬ aheadD F x0 x1 q) ∧ Hid (AD w B n F ao cp x0 x1 wr)) (fun a b _ => (intOf b).toNat - (intOf a).toNat)
  case atStart =>
    refine ⟨0, n, Nat.zero_le _, Nat.le_refl _, rfl, rfl, fun q hq => absurd hq (Nat.not_lt_zero q), fun q h1 h2 => absurd h2 (Nat.not_lt.2 h1), ?_⟩
    exact ⟨⟨World.cell?_alloc_mark w _ _ _ 0, World.cell?_alloc_mark w _ _ _ 1⟩, H.out.alloc _, below_alloc _ _⟩
  case round =>
    obtain ⟨i, j, hij, hj, rfl, rfl, HA, HB, HS⟩ := hrel
    by_cases hlt : i < j
    case neg =>
      obtain rfl : i = j := by omega
      have HP : Hid (placeAtD (aheadD F x0 x1) n i) := ⟨hj, HA.out, fun q => HB.out i (Nat.le_refl _) q⟩
      clear HA HB hij hlt
      go_upto_region 8 with fail
      by_cases hin : i < n
      · obtain ⟨g, o, hao, _, hg, y0, y1⟩ := HS.out.2.1.at2 hin
        subst hao
        obtain ⟨n0, N0⟩ : ∃ x, F (i * 2) = x := ⟨_, rfl⟩
        rw [N0] at y0
        obtain ⟨n1, N1⟩ : ∃ x, F (i * 2 + 1) = x := ⟨_, rfl⟩
        rw [N1] at y1
        have HN : Hid (F (i * 2) = n0 ∧ F (i * 2 + 1) = n1) := ⟨N0, N1⟩
        clear N0 N1
        have dn : decide (i < n) = true := decide_eq_true hin
        refine wp_region_held_drew (S := fun X => (X.cell? ⟨w.heap.size, 0, none⟩ = some (.int .i64 x0) ∧ X.cell? ⟨w.heap.size, 1, none⟩ = some (.int .i64 x1)) ∧ (X.cell? ⟨g, o + i * 2, none⟩ = some (.int .i64 n0) ∧ X.cell? ⟨g, o + i * 2 + 1, none⟩ = some (.int .i64 n1)) ∧ AD w B n F (some ⟨g, o, none⟩) cp x0 x1 X) (by kernel_rfl) ⟨HS.out.1, ⟨y0, y1⟩, HS.out.drew⟩ (fun hS => ?_)
        refine tkH 0 ?_ hS (fun wx hx => ?_) ?_; rotate_left
        · obtain ⟨⟨hx0, hx1⟩, ⟨hx4, hx5⟩, _⟩ := hx; go_simp; try with_reducible rfl
        refine tkH 1 ?_ hS (fun wx hx => ?_) ?_; rotate_left
        · obtain ⟨⟨hx0, hx1⟩, ⟨hx4, hx5⟩, _⟩ := hx; go_simp; try with_reducible rfl
        refine tkH 2 ?_ hS (fun wx hx => ?_) ?_; rotate_left
        · obtain ⟨⟨hx0, hx1⟩, ⟨hx4, hx5⟩, _⟩ := hx; go_simp; try with_reducible rfl
        refine tkH 3 ?_ hS (fun wx hx => ?_) ?_; rotate_left
        · obtain ⟨⟨hx0, hx1⟩, ⟨hx4, hx5⟩, _⟩ := hx; go_simp; try with_reducible rfl
        refine tkH 4 ?_ hS (fun wx hx => ?_) ?_; rotate_left
        · obtain ⟨⟨hx0, hx1⟩, ⟨hx4, hx5⟩, _⟩ := hx; go_simp; try with_reducible rfl
        refine tkH 5 ?_ hS (fun wx hx => ?_) ?_; rotate_left
        · obtain ⟨⟨hx0, hx1⟩, ⟨hx4, hx5⟩, _⟩ := hx; go_simp; try with_reducible rfl
        refine tkH 6 ?_ hS (fun wx hx => ?_) ?_; rotate_left
        · obtain ⟨⟨hx0, hx1⟩, ⟨hx4, hx5⟩, _⟩ := hx; go_simp; try with_reducible rfl
        refine tkH 7 ?_ hS (fun wx hx => ?_) ?_; rotate_left
        · obtain ⟨⟨hx0, hx1⟩, ⟨hx4, hx5⟩, _⟩ := hx; go_simp; try with_reducible rfl
        refine tkH 8 ?_ hS (fun wx hx => ?_) ?_; rotate_left
        · obtain ⟨⟨hx0, hx1⟩, ⟨hx4, hx5⟩, _⟩ := hx; go_simp; try with_reducible rfl
        refine tkH 9 ?_ hS (fun wx hx => ?_) ?_; rotate_left
        · obtain ⟨⟨hx0, hx1⟩, ⟨hx4, hx5⟩, _⟩ := hx; go_simp; try with_reducible rfl
        refine tkH 10 ?_ hS (fun wx hx => ?_) ?_; rotate_left
        · obtain ⟨⟨hx0, hx1⟩, ⟨hx4, hx5⟩, _⟩ := hx; go_simp; try with_reducible rfl
        refine rdH 11 (fun K hK => ?_)
        go_simp
        go_wp2_with fail
        obtain ⟨r, hr⟩ : ∃ r, orOf (cmpOf n1 x1) (cmpOf n0 x0) = r := ⟨_, rfl⟩
        refine (compareDones_is n0 n1 x0 x1 r hr _).mono ?_
        rintro e w1 ⟨rfl, q1⟩
        have S1 : AD w B n F (some ⟨g, o, none⟩) cp x0 x1 w1 := hS.2.2.later H.out q1
        obtain ⟨_, ⟨y0, y1⟩, _⟩ := hS
        have y0' := (q1.cell (p := ⟨g, o + i * 2, none⟩) (lt_cellD y0)).trans y0
        have y1' := (q1.cell (p := ⟨g, o + i * 2 + 1, none⟩) (lt_cellD y1)).trans y1
        go_wp2_with fail
        refine hK.out _ _ ⟨S1.1, ⟨y0', y1'⟩, S1⟩ (fun hS => ?_)
        clear hK K y0 y1 y0' y1' q1 S1 HS
        by_cases ha : n1 = x1 ∧ n0 = x0
        · obtain rfl : r = 0 := by rw [← hr]; exact (or_zeroD n1 n0 x1 x0).2 ha
          have HR : Hid (F (i * 2) = x0 ∧ F (i * 2 + 1) = x1) := ⟨HN.out.1.trans ha.2, HN.out.2.trans ha.1⟩
          clear ha hr HN
          refine tkH 12 ?_ hS (fun wx hx => ?_) ?_; rotate_left
          · obtain ⟨⟨hx0, hx1⟩, ⟨hx4, hx5⟩, _⟩ := hx; go_simp; try with_reducible rfl
          refine tkH 13 ?_ hS (fun wx hx => ?_) ?_; rotate_left
          · obtain ⟨⟨hx0, hx1⟩, ⟨hx4, hx5⟩, _⟩ := hx; go_simp; try with_reducible rfl
          refine tkH 14 ?_ hS (fun wx hx => ?_) ?_; rotate_left
          · obtain ⟨⟨hx0, hx1⟩, ⟨hx4, hx5⟩, _⟩ := hx; go_simp; try with_reducible rfl
          refine tkH 15 ?_ hS (fun wx hx => ?_) ?_; rotate_left
          · obtain ⟨⟨hx0, hx1⟩, ⟨hx4, hx5⟩, _⟩ := hx; go_simp; try with_reducible rfl
          refine wpAnyH_done (by kernel_rfl) ?_ _
          go_simp
          go_wp2
          go_ret2
          exact ⟨i, true, rfl, HP.out, ⟨fun _ => ⟨hin, HR.out⟩, fun _ => rfl⟩, hS.2.2.2.2⟩
        · have dr : (r == 0) = false := beq_eq_false_iff_ne.2 (by rw [← hr]; exact fun q => ha ((or_zeroD n1 n0 x1 x0).1 q))
          have HR : Hid (¬ (F (i * 2) = x0 ∧ F (i * 2 + 1) = x1)) := fun q => ha ⟨HN.out.2.symm.trans q.2, HN.out.1.symm.trans q.1⟩
          clear ha hr HN
          refine tkH 12 ?_ hS (fun wx hx => ?_) ?_; rotate_left
          · obtain ⟨⟨hx0, hx1⟩, ⟨hx4, hx5⟩, _⟩ := hx; go_simp; try with_reducible rfl
          refine tkH 13 ?_ hS (fun wx hx => ?_) ?_; rotate_left
          · obtain ⟨⟨hx0, hx1⟩, ⟨hx4, hx5⟩, _⟩ := hx; go_simp; try with_reducible rfl
          refine tkH 14 ?_ hS (fun wx hx => ?_) ?_; rotate_left
          · obtain ⟨⟨hx0, hx1⟩, ⟨hx4, hx5⟩, _⟩ := hx; go_simp; try with_reducible rfl
          refine tkH 15 ?_ hS (fun wx hx => ?_) ?_; rotate_left
          · obtain ⟨⟨hx0, hx1⟩, ⟨hx4, hx5⟩, _⟩ := hx; go_simp; try with_reducible rfl
          refine wpAnyH_done (by kernel_rfl) ?_ _
          go_simp
          go_wp2
          go_ret2
          exact ⟨i, false, rfl, HP.out, ⟨fun q => (Bool.false_ne_true q).elim, fun q => (HR.out q.2).elim⟩, hS.2.2.2.2⟩
      · have dn : decide (i < n) = false := decide_eq_false hin
        refine wp_region_held_drew (S := AD w B n F ao cp x0 x1) (by kernel_rfl) HS.out.drew (fun hS => ?_)
        refine tkH 0 ?_ hS (fun wx hx => ?_) ?_; rotate_left
        · go_simp; try with_reducible rfl
        refine tkH 1 ?_ hS (fun wx hx => ?_) ?_; rotate_left
        · go_simp; try with_reducible rfl
        refine tkH 2 ?_ hS (fun wx hx => ?_) ?_; rotate_left
        · go_simp; try with_reducible rfl
        refine tkH 3 ?_ hS (fun wx hx => ?_) ?_; rotate_left
        · go_simp; try with_reducible rfl
        refine tkH 4 ?_ hS (fun wx hx => ?_) ?_; rotate_left
        · go_simp; try with_reducible rfl
        refine noH 5 hS ?_
        refine noH 6 hS ?_
        refine noH 7 hS ?_
        refine noH 8 hS ?_
        refine noH 9 hS ?_
        refine noH 10 hS ?_
        refine noH 11 hS ?_
        refine noH 12 hS ?_
        refine tkH 13 ?_ hS (fun wx hx => ?_) ?_; rotate_left
        · go_simp; try with_reducible rfl
        refine tkH 14 ?_ hS (fun wx hx => ?_) ?_; rotate_left
        · go_simp; try with_reducible rfl
        refine tkH 15 ?_ hS (fun wx hx => ?_) ?_; rotate_left
        · go_simp; try with_reducible rfl
        refine wpAnyH_done (by kernel_rfl) ?_ _
        go_simp
        go_wp2
        go_ret2
        exact ⟨i, false, rfl, HP.out, ⟨fun q => (Bool.false_ne_true q).elim, fun q => (hin q.1).elim⟩, hS.2.2⟩
    go_upto_region 5 with fail
    obtain ⟨m, hm⟩ : ∃ m : Nat, ((i : Int) + j) / 2 = m := ⟨(i + j) / 2, by omega⟩
    have hm1 : i ≤ m ∧ m < j := by omega
    rw [hm]
    clear hm
    obtain ⟨hm1, hm2⟩ := hm1
    have hmn : m < n := by omega
    obtain ⟨g, o, hao, _, hg, y0, y1⟩ := HS.out.2.1.at2 hmn
    subst hao
    obtain ⟨n0, N0⟩ : ∃ x, F (m * 2) = x := ⟨_, rfl⟩
    rw [N0] at y0
    obtain ⟨n1, N1⟩ : ∃ x, F (m * 2 + 1) = x := ⟨_, rfl⟩
    rw [N1] at y1
    have HC : Hid (aheadD F x0 x1 m ↔ n1 < x1 ∨ n1 = x1 ∧ n0 < x0) := by unfold aheadD; rw [N0, N1]; exact Iff.rfl
    clear N0 N1
    refine wp_region_held_drew (S := fun X => (X.cell? ⟨w.heap.size, 0, none⟩ = some (.int .i64 x0) ∧ X.cell? ⟨w.heap.size, 1, none⟩ = some (.int .i64 x1)) ∧ (X.cell? ⟨g, o + m * 2, none⟩ = some (.int .i64 n0) ∧ X.cell? ⟨g, o + m * 2 + 1, none⟩ = some (.int .i64 n1)) ∧ AD w B n F (some ⟨g, o, none⟩) cp x0 x1 X) (by kernel_rfl) ⟨HS.out.1, ⟨y0, y1⟩, HS.out.drew⟩ (fun hS => ?_)
    refine tkH 0 ?_ hS (fun wx hx => ?_) ?_; rotate_left
    · obtain ⟨⟨hx0, hx1⟩, ⟨hx4, hx5⟩, _⟩ := hx; go_simp; try with_reducible rfl
    refine tkH 1 ?_ hS (fun wx hx => ?_) ?_; rotate_left
    · obtain ⟨⟨hx0, hx1⟩, ⟨hx4, hx5⟩, _⟩ := hx; go_simp; try with_reducible rfl
    refine tkH 2 ?_ hS (fun wx hx => ?_) ?_; rotate_left
    · obtain ⟨⟨hx0, hx1⟩, ⟨hx4, hx5⟩, _⟩ := hx; go_simp; try with_reducible rfl
    refine tkH 3 ?_ hS (fun wx hx => ?_) ?_; rotate_left
    · obtain ⟨⟨hx0, hx1⟩, ⟨hx4, hx5⟩, _⟩ := hx; go_simp; try with_reducible rfl
    refine tkH 4 ?_ hS (fun wx hx => ?_) ?_; rotate_left
    · obtain ⟨⟨hx0, hx1⟩, ⟨hx4, hx5⟩, _⟩ := hx; go_simp; try with_reducible rfl
    refine tkH 5 ?_ hS (fun wx hx => ?_) ?_; rotate_left
    · obtain ⟨⟨hx0, hx1⟩, ⟨hx4, hx5⟩, _⟩ := hx; go_simp; try with_reducible rfl
    refine rdH 6 (fun K hK => ?_)
    go_simp
    go_wp2_with fail
    obtain ⟨r, hr⟩ : ∃ r, orOf (cmpOf n1 x1) (cmpOf n0 x0) = r := ⟨_, rfl⟩
    refine (compareDones_is n0 n1 x0 x1 r hr _).mono ?_
    rintro e w1 ⟨rfl, q1⟩
    have S1 : AD w B n F (some ⟨g, o, none⟩) cp x0 x1 w1 := hS.2.2.later H.out q1
    obtain ⟨_, ⟨y0, y1⟩, _⟩ := hS
    have y0' := (q1.cell (p := ⟨g, o + m * 2, none⟩) (lt_cellD y0)).trans y0
    have y1' := (q1.cell (p := ⟨g, o + m * 2 + 1, none⟩) (lt_cellD y1)).trans y1
    go_wp2_with fail
    refine hK.out _ _ ⟨S1.1, ⟨y0', y1'⟩, S1⟩ (fun hS => ?_)
    clear hK K y0 y1 y0' y1' q1 S1 HS
    by_cases ha : n1 < x1 ∨ n1 = x1 ∧ n0 < x0
    · have dr : decide (r < 0) = true := decide_eq_true (by rw [← hr]; exact (or_negD n1 n0 x1 x0).2 ha)
      have HA1 : Hid (∀ q, q < m + 1 → aheadD F x0 x1 q) := fun q hq => HM.out q m (by omega) hmn (HC.out.2 ha)
      clear ha hr HC HA
      refine tkH 7 ?_ hS (fun wx hx => ?_) ?_; rotate_left
      · obtain ⟨⟨hx0, hx1⟩, ⟨hx4, hx5⟩, _⟩ := hx; go_simp; try with_reducible rfl
      refine wpAnyH_done (by kernel_rfl) ?_ _
      go_simp
      go_wp2
      go_roundw
      case rel => exact ⟨m + 1, j, by omega, hj, by go_num, rfl, HA1, HB, hS.2.2⟩
      case measure => simp [intOf]; omega
    · have dr : decide (r < 0) = false := decide_eq_false (by rw [← hr]; exact fun q => ha ((or_negD n1 n0 x1 x0).1 q))
      have HB1 : Hid (∀ q, m ≤ q → q < n → ¬ aheadD F x0 x1 q) := fun q h1 h2 h3 => ha (HC.out.1 (HM.out m q h1 h2 h3))
      clear ha hr HC HB
      refine tkH 7 ?_ hS (fun wx hx => ?_) ?_; rotate_left
      · obtain ⟨⟨hx0, hx1⟩, ⟨hx4, hx5⟩, _⟩ := hx; go_simp; try with_reducible rfl
      refine wpAnyH_done (by kernel_rfl) ?_ _
      go_simp
      go_wp2
      go_roundw
      case rel => exact ⟨i, m, hm1, by omega, rfl, rfl, HA, HB1, hS.2.2⟩
      case measure => simp [intOf]; omega
end Go.Proofs.YtpodcnmiaacndaaGreat

namespace Go.Proofs.YtpodcnmiaacndaaGreat
open Go.RowKit

/-- One came ahead of the other. -/
abbrev ltD (a b : Int × Int) : Prop := a.2 < b.2 ∨ a.2 = b.2 ∧ a.1 < b.1
def RisesD (L : Prs) : Prop := L.Pairwise ltD
def aheadDN (L : Prs) (x : Int × Int) : Nat := (L.takeWhile fun e => decide (ltD e x)).length
theorem aheadDN_le (L : Prs) (x : Int × Int) : aheadDN L x ≤ L.length := (List.takeWhile_sublist _).length_le
theorem aheadDN_lt {L : Prs} {x : Int × Int} {j : Nat} (h : j < aheadDN L x) : ltD (L.getD j (0, 0)) x := by
  induction L generalizing j with
  | nil => simp [aheadDN] at h
  | cons e t ih =>
    unfold aheadDN at h ih
    rw [List.takeWhile_cons] at h
    split at h
    · rename_i he
      cases j with
      | zero => simpa using he
      | succ j => simpa using ih (by simpa using h)
    · simp at h
theorem aheadDN_not {L : Prs} {x : Int × Int} (h : aheadDN L x < L.length) : ¬ ltD (L.getD (aheadDN L x) (0, 0)) x := by
  induction L with
  | nil => simp at h
  | cons e t ih =>
    unfold aheadDN at h ih ⊢
    rw [List.takeWhile_cons] at h ⊢
    split
    · rename_i he
      rw [if_pos he] at h
      simpa using ih (by simpa using h)
    · rename_i he
      simpa using he
theorem ahead_row {L : Prs} {a b : Int} {j : Nat} : aheadD (rowL L) a b j ↔ ltD (L.getD j (0, 0)) (a, b) := by
  unfold aheadD ltD
  rw [rowL_key, rowL_val]
theorem place_isD {L : Prs} {a b : Int} {i : Nat} (h : placeAtD (aheadD (rowL L) a b) L.length i) : i = aheadDN L (a, b) := by
  obtain ⟨h1, h2, h3⟩ := h
  rcases Nat.lt_trichotomy i (aheadDN L (a, b)) with q | q | q
  · exact absurd (ahead_row.2 (aheadDN_lt q)) (h3 (Nat.lt_of_lt_of_le q (aheadDN_le L _)))
  · exact q
  · exact absurd (ahead_row.1 (h2 _ q)) (aheadDN_not (by omega))
theorem ltD_trans {a b c : Int × Int} (h : ltD a b) (h' : ltD b c) : ltD a c := by
  unfold ltD at *
  omega
theorem rises_monoD {L : Prs} (h : RisesD L) {a b : Int} (i j : Nat) (hij : i ≤ j) (hj : j < L.length) (ha : aheadD (rowL L) a b j) : aheadD (rowL L) a b i := by
  rw [ahead_row] at *
  rcases Nat.eq_or_lt_of_le hij with rfl | q
  · exact ha
  · have := List.pairwise_iff_getElem.1 h i j (by omega) hj q
    simp only [List.getD_eq_getElem?_getD, List.getElem?_eq_getElem hj, List.getElem?_eq_getElem (show i < L.length by omega), Option.getD_some] at ha ⊢
    exact ltD_trans this ha
/-- One more, at its place. -/
def putD (L : Prs) (x : Int × Int) : Prs := L.insertIdx (aheadDN L x) x
theorem putD_cons (e : Int × Int) (t : Prs) (x : Int × Int) : putD (e :: t) x = if ltD e x then e :: putD t x else x :: e :: t := by
  unfold putD aheadDN
  rw [List.takeWhile_cons]
  by_cases h : ltD e x
  · simp [h]
  · simp [h]
theorem putD_mem {L : Prs} {x a : Int × Int} (h : a ∈ putD L x) : a = x ∨ a ∈ L := by
  induction L with
  | nil => simpa [putD, aheadDN] using h
  | cons e t ih =>
    rw [putD_cons] at h
    split at h
    · rcases List.mem_cons.1 h with q | q
      · exact Or.inr (by rw [q]; simp)
      · rcases ih q with r | r
        · exact Or.inl r
        · exact Or.inr (List.mem_cons_of_mem _ r)
    · rcases List.mem_cons.1 h with q | q
      · exact Or.inl q
      · exact Or.inr q
/-- Two that differ in their places stand one behind the other. -/
theorem ltD_or {a b : Int × Int} (h : a.1 ≠ b.1) : ltD a b ∨ ltD b a := by
  unfold ltD
  omega
theorem putD_rises {L : Prs} (h : RisesD L) {x : Int × Int} (hx : ∀ e ∈ L, e.1 ≠ x.1) : RisesD (putD L x) := by
  induction L with
  | nil => simp [putD, aheadDN, RisesD]
  | cons e t ih =>
    have ht := List.pairwise_cons.1 h
    rw [putD_cons]
    split
    · rename_i he
      refine List.pairwise_cons.2 ⟨fun a ha => ?_, ih ht.2 (fun e he => hx e (List.mem_cons_of_mem _ he))⟩
      rcases putD_mem ha with rfl | q
      · exact he
      · exact ht.1 a q
    · rename_i he
      have hlt : ltD x e := (ltD_or (hx e (by simp))).resolve_left he
      refine List.pairwise_cons.2 ⟨fun a ha => ?_, h⟩
      rcases List.mem_cons.1 ha with rfl | q
      · exact hlt
      · exact ltD_trans hlt (ht.1 a q)
/-- Where nothing of that place stands, nothing stands at its place. -/
theorem notD {L : Prs} {x : Int × Int} (hx : ∀ e ∈ L, e.1 ≠ x.1) : ¬ (aheadDN L x < L.length ∧ (L.getD (aheadDN L x) (0, 0)).1 = x.1 ∧ (L.getD (aheadDN L x) (0, 0)).2 = x.2) := fun ⟨h1, h2, _⟩ => by
  have hg : L.getD (aheadDN L x) (0, 0) = L[aheadDN L x] := by simp [List.getD, h1]
  rw [hg] at h2
  exact hx _ (List.getElem_mem h1) h2
theorem putD_length (L : Prs) (x : Int × Int) : (putD L x).length = L.length + 1 := List.length_insertIdx_of_le_length (aheadDN_le L x) _
end Go.Proofs.YtpodcnmiaacndaaGreat

namespace Go.Proofs.YtpodcnmiaacndaaGreat
open Go.RowKit

/-- The list's box, the box of a pair, and that nothing old has turned. -/
def RisED (w : World) (b c : Nat) (v : Value) (k x : Int) (X : World) : Prop := Blk2 X b v (.func (.func 78) #[] #[]) ∧ Blk2 X c (.int .i64 k) (.int .i64 x) ∧ Below w.heap.size w X
theorem RisED.later {w X X' : World} {b c : Nat} {v : Value} {k x : Int} (h : RisED w b c v k x X) (hb : Below X.heap.size X X') : RisED w b c v k x X' := ⟨h.1.later hb, h.2.1.later hb, h.2.2.trans (hb.mono h.2.2.size)⟩
theorem RisED.drew {w X : World} {b c : Nat} {v : Value} {k x : Int} (h : RisED w b c v k x X) : RisED w b c v k x X.drew := ⟨h.1, h.2.1, h.2.2.drew⟩
/-- It stands there. -/
def atD (L : Prs) (k x : Int) : Prop := aheadDN L (k, x) < L.length ∧ (L.getD (aheadDN L (k, x)) (0, 0)).1 = k ∧ (L.getD (aheadDN L (k, x)) (0, 0)).2 = x
def PlaceIsD (w : World) (L : Prs) (k x : Int) (e : Ending) (w' : World) : Prop := ∃ r : Bool, e = .returned (.tuple #[.int .i64 (aheadDN L (k, x)), .bool r]) ∧ (r = true ↔ atD L k x) ∧ Below w.heap.size w w'
set_option maxRecDepth 100000 in
set_option maxHeartbeats 2000000 in
theorem place_anyD (L : Prs) (b B : Nat) (v : Value) (k x : Int) (w : World) (hb : Blk2 w b v (.func (.func 78) #[] #[])) (ho : Own w B 92 2 L.length (rowL L) v) (hr : RisesD L) (hn : L.length ≤ 1000) :
    Calls Tryz.prog 124 #[.pointer (some ⟨b, 0, none⟩), .agg #[.int .i64 k, .int .i64 x]] w (PlaceIsD w L k x) := by
  obtain ⟨ao, cp, rfl⟩ := ho.form
  have HO : Hid (Own w B 92 2 L.length (rowL L) (.slice ao L.length cp) ∧ RisesD L) := ⟨ho, hr⟩
  have HE : RisED w b w.heap.size (.slice ao L.length cp) k x ((w.alloc (.cells #[.int .i64 k, .int .i64 x] 92)).drew) := RisED.drew ⟨hb.alloc _, Blk2.new w _ _ _, below_alloc _ _⟩
  clear ho hr hb
  go_enter Tryz.func124, Tryz.ntmps124
  go_upto_region 1 with fail
  refine wp_region_held_drew (S := RisED w b w.heap.size (.slice ao L.length cp) k x) (by kernel_rfl) HE (fun hS => ?_)
  clear HE
  refine tkH 0 ?_ hS (fun wx hx => ?_) ?_; rotate_left
  · obtain ⟨⟨⟨hx0, hx1⟩, hx4, hx5⟩, ⟨⟨hx2, hx3⟩, hx6, hx7⟩, _⟩ := hx; go_simp; try with_reducible rfl
  refine tkH 1 ?_ hS (fun wx hx => ?_) ?_; rotate_left
  · obtain ⟨⟨⟨hx0, hx1⟩, hx4, hx5⟩, ⟨⟨hx2, hx3⟩, hx6, hx7⟩, _⟩ := hx; go_simp; try with_reducible rfl
  refine tkH 2 ?_ hS (fun wx hx => ?_) ?_; rotate_left
  · obtain ⟨⟨⟨hx0, hx1⟩, hx4, hx5⟩, ⟨⟨hx2, hx3⟩, hx6, hx7⟩, _⟩ := hx; go_simp; try with_reducible rfl
  refine tkH 3 ?_ hS (fun wx hx => ?_) ?_; rotate_left
  · obtain ⟨⟨⟨hx0, hx1⟩, hx4, hx5⟩, ⟨⟨hx2, hx3⟩, hx6, hx7⟩, _⟩ := hx; go_simp; try with_reducible rfl
  refine tkH 4 ?_ hS (fun wx hx => ?_) ?_; rotate_left
  · obtain ⟨⟨⟨hx0, hx1⟩, hx4, hx5⟩, ⟨⟨hx2, hx3⟩, hx6, hx7⟩, _⟩ := hx; go_simp; try with_reducible rfl
  refine tkH 5 ?_ hS (fun wx hx => ?_) ?_; rotate_left
  · obtain ⟨⟨⟨hx0, hx1⟩, hx4, hx5⟩, ⟨⟨hx2, hx3⟩, hx6, hx7⟩, _⟩ := hx; go_simp; try with_reducible rfl
  refine tkH 6 ?_ hS (fun wx hx => ?_) ?_; rotate_left
  · obtain ⟨⟨⟨hx0, hx1⟩, hx4, hx5⟩, ⟨⟨hx2, hx3⟩, hx6, hx7⟩, _⟩ := hx; go_simp; try with_reducible rfl
  refine tkH 7 ?_ hS (fun wx hx => ?_) ?_; rotate_left
  · obtain ⟨⟨⟨hx0, hx1⟩, hx4, hx5⟩, ⟨⟨hx2, hx3⟩, hx6, hx7⟩, _⟩ := hx; go_simp; try with_reducible rfl
  refine tkH 8 ?_ hS (fun wx hx => ?_) ?_; rotate_left
  · obtain ⟨⟨⟨hx0, hx1⟩, hx4, hx5⟩, ⟨⟨hx2, hx3⟩, hx6, hx7⟩, _⟩ := hx; go_simp; try with_reducible rfl
  refine rdH 9 (fun K hK => ?_)
  go_simp
  go_wp2_with fail
  refine (searchD_any _ _ _ _ B k x _ (HO.out.1.later hS.2.2).row.1 hn (fun i j h1 h2 h3 => rises_monoD HO.out.2 i j h1 h2 h3)).mono ?_
  rintro e w1 ⟨i, r, rfl, hp, hr, q1⟩
  obtain rfl := place_isD hp
  simp only [rowL_key, rowL_val] at hr
  have HR : Hid (r = true ↔ atD L k x) := hr
  have HB : Hid (Below w.heap.size w w1) := hS.2.2.trans (q1.mono hS.2.2.size)
  have hS1 := hS.later q1
  clear hp hr q1 hS HO
  go_wp2_with fail
  refine hK.out _ _ hS1 (fun hS => ?_)
  clear hK K hS1
  refine tkH 10 ?_ hS (fun wx hx => ?_) ?_; rotate_left
  · obtain ⟨⟨⟨hx0, hx1⟩, hx4, hx5⟩, ⟨⟨hx2, hx3⟩, hx6, hx7⟩, _⟩ := hx; go_simp; try with_reducible rfl
  refine tkH 11 ?_ hS (fun wx hx => ?_) ?_; rotate_left
  · obtain ⟨⟨⟨hx0, hx1⟩, hx4, hx5⟩, ⟨⟨hx2, hx3⟩, hx6, hx7⟩, _⟩ := hx; go_simp; try with_reducible rfl
  refine tkH 12 ?_ hS (fun wx hx => ?_) ?_; rotate_left
  · obtain ⟨⟨⟨hx0, hx1⟩, hx4, hx5⟩, ⟨⟨hx2, hx3⟩, hx6, hx7⟩, _⟩ := hx; go_simp; try with_reducible rfl
  refine tkH 13 ?_ hS (fun wx hx => ?_) ?_; rotate_left
  · obtain ⟨⟨⟨hx0, hx1⟩, hx4, hx5⟩, ⟨⟨hx2, hx3⟩, hx6, hx7⟩, _⟩ := hx; go_simp; try with_reducible rfl
  refine wpAnyH_done (by kernel_rfl) ?_ _
  go_simp
  go_wp2
  go_ret2
  exact ⟨r, rfl, HR.out, HB.out⟩
theorem own_grownD {w w' : World} {b B : Nat} {v a0 a1 : Value} {n : Nat} {F : Nat → Int} (hb : Blk2 w b a0 a1) (ho : Own w B 92 2 n F v) (hB : b < B) (hg : w.grownBy w' v.ownBlock) : Blk2 w' b a0 a1 :=
  hb.kept (hg.block b hb.lt (fun e => by have := (own_in ho b e.symm).1; omega))
/-- What turned lies in the list's own blocks. -/
theorem grown_belowD {w w' : World} {B D : Nat} {v : Value} {n : Nat} {F : Nat → Int} (ho : Own w B 92 2 n F v) (hD : D ≤ B) (hDw : D ≤ w.heap.size) (hg : w.grownBy w' v.ownBlock) : Below D w w' :=
  ⟨hg.os, hg.tape, hg.output, hg.size, fun i hi => hg.block i (by omega) (fun e => by have := (own_in ho i e.symm).1; omega)⟩
/-- The list stands in its box: its own memory is behind the box. -/
def RisD (w : World) (b : Nat) (L : Prs) : Prop := ∃ v, Blk2 w b v (.func (.func 78) #[] #[]) ∧ Own w (b + 1) 92 2 L.length (rowL L) v
theorem RisD.later {w w' : World} {b : Nat} {L : Prs} (h : RisD w b L) (hb : Below w.heap.size w w') : RisD w' b L := by
  obtain ⟨v, h1, h2⟩ := h
  exact ⟨v, h1.later hb, h2.later hb⟩
theorem RisD.lt {w : World} {b : Nat} {L : Prs} (h : RisD w b L) : b < w.heap.size := by
  obtain ⟨v, h1, _⟩ := h
  exact h1.lt
theorem stored_isD {w : World} {b : Nat} {v v' : Value} {L : Prs} (hb : Blk2 w b v (.func (.func 78) #[] #[])) (ho : Own w (b + 1) 92 2 L.length (rowL L) v') : Blk2 (w.setCell ⟨b, 0, none⟩ v') b v' (.func (.func 78) #[] #[]) ∧ Own (w.setCell ⟨b, 0, none⟩ v') (b + 1) 92 2 L.length (rowL L) v' :=
  ⟨Blk2.set0P hb _, own_kept ho (fun j hj => Below.heap_setCell w ⟨b, 0, none⟩ _ j (fun e => by have := (own_in ho j hj).1; simp at e; omega))⟩
set_option maxRecDepth 100000 in
set_option maxHeartbeats 2000000 in
theorem drop_anyD (L : Prs) (b : Nat) (v : Value) (k x : Int) (w : World) (hb : Blk2 w b v (.func (.func 78) #[] #[])) (ho : Own w (b + 1) 92 2 L.length (rowL L) v) (hr : RisesD L) (hx : ∀ e ∈ L, e.1 ≠ k) (hn : L.length ≤ 1000) :
    Calls Tryz.prog 123 #[.pointer (some ⟨b, 0, none⟩), .agg #[.int .i64 k, .int .i64 x]] w fun e w' => e = .returned (.tuple #[]) ∧ Below w.heap.size w w' := by
  have HO : Hid (Own w (b + 1) 92 2 L.length (rowL L) v ∧ RisesD L ∧ Blk2 w b v (.func (.func 78) #[] #[]) ∧ ¬ atD L k x) := ⟨ho, hr, hb, notD (x := (k, x)) hx⟩
  clear ho hr hb hx
  go_enter Tryz.func123, Tryz.ntmps123
  go_wp2_with fail
  refine (place_anyD L b (b + 1) _ k x _ (HO.out.2.2.1.alloc _) (HO.out.1.alloc _) HO.out.2.1 hn).mono ?_
  rintro e w1 ⟨r, rfl, hr, q1⟩
  have HB : Hid (Below w.heap.size w w1) := (below_alloc w _).trans (q1.mono (by simp))
  obtain rfl : r = false := Bool.eq_false_iff.2 (fun q => HO.out.2.2.2 (hr.1 q))
  clear q1 hr
  go_wp2
  go_end0
  exact ⟨rfl, HB.out⟩
set_option maxRecDepth 100000 in
set_option maxHeartbeats 2000000 in
theorem put_anyD (L : Prs) (b : Nat) (k x : Int) (w : World) (h : RisD w b L) (hr : RisesD L) (hx : ∀ e ∈ L, e.1 ≠ k) (hn : L.length ≤ 900) :
    Calls Tryz.prog 79 #[.pointer (some ⟨b, 0, none⟩), .agg #[.int .i64 k, .int .i64 x]] w fun e w' => e = .returned (.tuple #[]) ∧ RisD w' b (putD L (k, x)) ∧ Below b w w' := by
  obtain ⟨v, hb, ho⟩ := h
  obtain ⟨ao, cp, rfl⟩ := ho.form
  have HO : Hid (Blk2 w b (.slice ao L.length cp) (.func (.func 78) #[] #[]) ∧ Own w (b + 1) 92 2 L.length (rowL L) (.slice ao L.length cp) ∧ RisesD L ∧ ∀ e ∈ L, e.1 ≠ k) := ⟨hb, ho, hr, hx⟩
  have hbw : b < w.heap.size := hb.lt
  have HVB : Hid (∀ q, (Value.slice ao L.length cp).ownBlock = some q → q < w.heap.size) := fun q hq => (own_in ho q hq).2
  clear hb ho hr hx
  go_enter Tryz.func79, Tryz.ntmps79
  go_wp2_with fail
  refine (drop_anyD L b _ k x _ (HO.out.1.alloc _) (HO.out.2.1.alloc _) HO.out.2.2.1 HO.out.2.2.2 (by omega)).mono ?_
  rintro e w1 ⟨rfl, q1⟩
  have R1 : Hid (Blk2 w1 b (.slice ao L.length cp) (.func (.func 78) #[] #[]) ∧ Own w1 (b + 1) 92 2 L.length (rowL L) (.slice ao L.length cp) ∧ Blk2 w1 w.heap.size (.int .i64 k) (.int .i64 x) ∧ Below b w w1) := ⟨(HO.out.1.alloc _).later q1, (HO.out.2.1.alloc _).later q1, (Blk2.new w _ _ 92).later q1, ((below_alloc w _).mono (Nat.le_of_lt hbw)).trans (q1.mono (by simp; omega))⟩
  obtain ⟨⟨c0, c1⟩, _, _⟩ := R1.out.2.2.1
  clear q1
  go_wp2_with fail
  refine (place_anyD L b (b + 1) _ k x _ R1.out.1 R1.out.2.1 HO.out.2.2.1 (by omega)).mono ?_
  rintro e w2 ⟨r, rfl, _, q2⟩
  have R2 : Hid (Blk2 w2 b (.slice ao L.length cp) (.func (.func 78) #[] #[]) ∧ Own w2 (b + 1) 92 2 L.length (rowL L) (.slice ao L.length cp) ∧ Blk2 w2 w.heap.size (.int .i64 k) (.int .i64 x) ∧ Below b w w2) := ⟨R1.out.1.later q2, R1.out.2.1.later q2, R1.out.2.2.1.later q2, R1.out.2.2.2.trans (q2.mono (by have := R1.out.2.2.2.size; omega))⟩
  have hle : aheadDN L (k, x) ≤ L.length := aheadDN_le L (k, x)
  obtain ⟨A, hA⟩ : ∃ A, aheadDN L (k, x) = A := ⟨_, rfl⟩
  have HAA : Hid (putD L (k, x) = L.insertIdx A (k, x)) := by unfold Hid; rw [← hA]; rfl
  rw [hA] at hle
  rw [hA]
  clear hA q2 R1 c0 c1
  have hw2 : b < w2.heap.size := R2.out.1.lt
  have hc2 : w.heap.size < w2.heap.size := R2.out.2.2.1.lt
  have HI : Hid (Calls Tryz.prog 125 #[.slice ao L.length cp, .int .i64 A, .slice (some ⟨w2.heap.size, 0, none⟩) 1 1] (w2.drew.alloc (.cells #[.int .i64 k, .int .i64 x] 92)) (InsD (w2.drew.alloc (.cells #[.int .i64 k, .int .i64 x] 92)) (b + 1) L.length A (rowL L) [k, x] (.slice ao L.length cp))) :=
    insD_any _ (b + 1) L.length A w2.heap.size 1 (rowL L) [k, x] _ rfl (R2.out.2.1.later ((Below.drew (Below.refl _ _)).trans ((below_alloc _ _).mono (Nat.le_refl _)))) (by simp; omega) (by omega) hle (fun e => by have := (own_in R2.out.2.1 _ e).2; omega) (Blkk.made w2.drew _ _ _ rfl) (fun p hp => by
      rw [World.cell?_alloc_at (w := w2.drew) _ _ w2.heap.size p rfl]
      obtain rfl | rfl : p = 0 ∨ p = 1 := by omega
      all_goals rfl)
  have HYB : Hid (Below w2.heap.size w2 (w2.drew.alloc (.cells #[.int .i64 k, .int .i64 x] 92))) := (Below.drew (Below.refl _ _)).trans ((below_alloc _ _).mono (Nat.le_refl _))
  have SY : Hid (Blk2 (w2.drew.alloc (.cells #[.int .i64 k, .int .i64 x] 92)) b (.slice ao L.length cp) (.func (.func 78) #[] #[]) ∧ Blk2 (w2.drew.alloc (.cells #[.int .i64 k, .int .i64 x] 92)) w.heap.size (.int .i64 k) (.int .i64 x)) := ⟨R2.out.1.later HYB.out, R2.out.2.2.1.later HYB.out⟩
  have HOY : Hid (Own (w2.drew.alloc (.cells #[.int .i64 k, .int .i64 x] 92)) (b + 1) 92 2 L.length (rowL L) (.slice ao L.length cp) ∧ Below b w (w2.drew.alloc (.cells #[.int .i64 k, .int .i64 x] 92))) := ⟨R2.out.2.1.later HYB.out, R2.out.2.2.2.trans (HYB.out.mono (by omega))⟩
  obtain ⟨⟨p0, p1⟩, _, _⟩ := R2.out.1
  have hS0 : (fun X : World => Blk2 X w.heap.size (.int .i64 k) (.int .i64 x)) w2.drew := R2.out.2.2.1
  clear R2
  go_upto_region 3 with fail
  refine wp_region_held_drew (S := (fun X : World => Blk2 X w.heap.size (.int .i64 k) (.int .i64 x))) (by kernel_rfl) hS0 (fun hS => ?_)
  clear hS0
  refine tkH 0 ?_ hS (fun wx hx => ?_) ?_; rotate_left
  · obtain ⟨⟨hx2, hx3⟩, hx6, hx7⟩ := hx; go_simp; try with_reducible rfl
  refine tkH 1 ?_ hS (fun wx hx => ?_) ?_; rotate_left
  · obtain ⟨⟨hx2, hx3⟩, hx6, hx7⟩ := hx; go_simp; try with_reducible rfl
  refine tkH 2 ?_ hS (fun wx hx => ?_) ?_; rotate_left
  · obtain ⟨⟨hx2, hx3⟩, hx6, hx7⟩ := hx; go_simp; try with_reducible rfl
  refine tkH 3 ?_ hS (fun wx hx => ?_) ?_; rotate_left
  · obtain ⟨⟨hx2, hx3⟩, hx6, hx7⟩ := hx; go_simp; try with_reducible rfl
  refine tkH 5 ?_ hS (fun wx hx => ?_) ?_; rotate_left
  · obtain ⟨⟨hx2, hx3⟩, hx6, hx7⟩ := hx; go_simp; try with_reducible rfl
  refine tkH 6 ?_ hS (fun wx hx => ?_) ?_; rotate_left
  · obtain ⟨⟨hx2, hx3⟩, hx6, hx7⟩ := hx; go_simp; try with_reducible rfl
  refine wpAnyH_ready (rs := [4, 7]) (by kernel_rfl) (by simp) ?_
  refine AllReadyH.cons rfl (fun K hK => ?_) (AllReadyH.cons rfl (fun K hK => ?_) AllReadyH.nil)
  focus
    go_simp
    refine hK.out _ _ hS (fun hS => ?_)
    clear hK K p0 p1
    refine rdH 7 (fun K hK => ?_)
    go_simp
    refine hK.out _ _ SY.out.2 (fun hS => ?_)
    clear hK K
  rotate_left
  focus
    go_simp
    refine hK.out _ _ SY.out.2 (fun hS => ?_)
    clear hK K
    refine rdH 4 (fun K hK => ?_)
    go_simp
    refine hK.out _ _ hS (fun hS => ?_)
    clear hK K p0 p1
  rotate_left
  all_goals
    refine rdH 8 (fun K hK => ?_)
    go_simp
    go_wp2_with fail
    refine HI.out.mono ?_
    rintro e w3 ⟨a3, c3, rfl, ho3, hg3, _⟩
    have HB3 : Hid (Blk2 w3 b (.slice ao L.length cp) (.func (.func 78) #[] #[])) := own_grownD SY.out.1 HOY.out.1 (by omega) hg3
    have hS3 : Blk2 w3 w.heap.size (.int .i64 k) (.int .i64 x) := SY.out.2.kept (hg3.block _ (by simp; omega) (fun e => by have := HVB.out _ e.symm; omega))
    have HO3 : Hid (Own w3 (b + 1) 92 2 (putD L (k, x)).length (rowL (putD L (k, x))) (.slice a3 (L.length + 1) c3)) := by
      unfold Hid
      rw [HAA.out, List.length_insertIdx_of_le_length hle]
      exact own_eqP ho3 (fun p hp => rowL_insert hle hp)
    have HD3 : Hid (Below b w w3) := HOY.out.2.trans (grown_belowD HOY.out.1 (by omega) (by simp; omega) hg3)
    clear ho3 hg3
    go_wp2_with fail
    refine hK.out _ _ hS3 (fun hS => ?_)
    clear hK K hS3
    refine tkH 9 ?_ hS (fun wx hx => ?_) ?_; rotate_left
    · obtain ⟨⟨hx2, hx3⟩, hx6, hx7⟩ := hx; go_simp; try with_reducible rfl
    refine tkH 10 ?_ hS (fun wx hx => ?_) ?_; rotate_left
    · obtain ⟨⟨hx2, hx3⟩, hx6, hx7⟩ := hx; go_simp; try with_reducible rfl
    refine rdH 11 (fun K hK => ?_)
    obtain ⟨⟨x0, x1⟩, x2, x3⟩ := HB3.out
    go_simp
    refine hK.out _ _ (hS.kept (Below.heap_setCell _ ⟨b, 0, none⟩ _ _ (by simp; omega))) (fun hS => ?_)
    clear hK K x0 x1 x2 x3
    refine wpAnyH_done (by kernel_rfl) ?_ _
    go_simp
    go_end0
    exact ⟨rfl, ⟨_, stored_isD HB3.out HO3.out⟩, HD3.out.setCell (Nat.le_refl _) _⟩
end Go.Proofs.YtpodcnmiaacndaaGreat

namespace Go.Proofs.YtpodcnmiaacndaaGreat
section
open Go.RowKit Go.Maps
end

section
open Go.RowKit Go.Lib
/-- A row of cells that rises and has just what a map has. -/
structure MapRow (m : Int → Int → Option Int) (nc : Nat) (c : Nat → Int) : Prop where
  rise : ∀ j, j < nc → ∀ i, i < j → pairLt (c (i * 3)) (c (i * 3 + 1)) (c (j * 3)) (c (j * 3 + 1))
  wf : ∀ i, i < nc → Wf (c (i * 3)) ∧ Wf (c (i * 3 + 1))
  has : ∀ i, i < nc → m (c (i * 3)) (c (i * 3 + 1)) = some (c (i * 3 + 2))
  all : ∀ x y v, Wf x → Wf y → m x y = some v → ∃ i, i < nc ∧ c (i * 3) = x ∧ c (i * 3 + 1) = y ∧ c (i * 3 + 2) = v
theorem rowD_list (m n : Nat) (F : Nat → Int) : (rowD m n F).toList = (List.range n).map (struD F m) := by
  unfold rowD struD
  simp
theorem MapRow.up {m : Int → Int → Option Int} {nc : Nat} {c : Nat → Int} (h : MapRow m nc c) : ((rowD 3 nc c).toList).Pairwise (Lt2 (fun x => x.getD 0 0) (fun x => x.getD 1 0)) := by
  rw [rowD_list, List.pairwise_map, List.pairwise_iff_getElem]
  intro i j hi hj hij
  simp at hi hj
  simp only [List.getElem_range]
  exact h.rise j hj i hij
theorem puts_some {p q v : Nat → Int} {x y u : Int} : ∀ {n : Nat}, puts p q v n x y = some u → ∃ i, i < n ∧ p i = x ∧ q i = y ∧ v i = u
  | 0, h => by simp [puts] at h
  | n + 1, h => by
    unfold puts putM at h
    by_cases e : x = p n ∧ y = q n
    · rw [if_pos e] at h
      simp at h
      exact ⟨n, by omega, e.1.symm, e.2.symm, h⟩
    · rw [if_neg e] at h
      obtain ⟨i, hi, r⟩ := puts_some h
      exact ⟨i, by omega, r⟩
theorem cellM_some {S : Sto} {x y u : Int} (h : cellM S S.nc x y = some u) : ∃ i, i < S.nc ∧ S.c (i * 3) = x ∧ S.c (i * 3 + 1) = y ∧ S.c (i * 3 + 2) = u := puts_some h
end
end Go.Proofs.YtpodcnmiaacndaaGreat

namespace Go.Proofs.YtpodcnmiaacndaaGreat
open Go.RowKit Go.Maps Go.Lib

theorem Own.block {w : World} {B : Nat} {e : TypeId} {m n : Nat} {F : Nat → Int} {v : Value} (h : Own w B e m n F v) : ∀ k, v.ownBlock = some k → B ≤ k ∧ k < w.heap.size := own_in h
theorem Own.kept {w w' : World} {B : Nat} {e : TypeId} {m n : Nat} {F : Nat → Int} {v : Value} (h : Own w B e m n F v) (hb : ∀ k, v.ownBlock = some k → w'.heap[k]? = w.heap[k]?) : Own w' B e m n F v := by
  refine ⟨h.1, ?_⟩
  rcases h.2 with q | ⟨g, cap, cur, rfl, hg, hw, r⟩
  · exact Or.inl q
  · exact Or.inr ⟨g, cap, cur, rfl, hg, (hb g rfl).trans hw, r⟩
end Go.Proofs.YtpodcnmiaacndaaGreat

namespace Go.Proofs.YtpodcnmiaacndaaGreat
section
open Go.RowKit
def markT (S : Nat → Sto) (i : Nat) : Nat := (S i).nc * 3 + (S i).nl * 5 + (S i).nw * 4
/-- A store numbered from k on. -/
def markK (S : Sto) (k : Int) : Sto := ⟨S.nc, fun p => k + (p : Nat), S.nl, fun p => k + S.nc * 3 + (p : Nat), S.nw, fun p => k + S.nc * 3 + S.nl * 5 + (p : Nat)⟩
theorem markT_le (S : Nat → Sto) : ∀ n, sumN (markT S) n ≤ 5 * sumN (sizeT S) n
  | 0 => by simp [sumN]
  | n + 1 => by
    have := markT_le S n
    show sumN (markT S) n + markT S n ≤ 5 * (sumN (sizeT S) n + sizeT S n)
    unfold markT sizeT at *
    omega
theorem sum_mono (f : Nat → Nat) {k n : Nat} (h : k ≤ n) : sumN f k ≤ sumN f n := by
  induction n with
  | zero => obtain rfl : k = 0 := by omega
            exact Nat.le_refl _
  | succ n ih =>
    by_cases q : k = n + 1
    · subst q; exact Nat.le_refl _
    · exact Nat.le_trans (ih (by omega)) (Nat.le_add_right _ _)
theorem Fine.up {w : World} {z : Nat → Nat} {n : Nat} {S : Nat → Sto} {U : Nat → Nat → Value} (h : Fine w z n S U) : ∀ j, j ≤ n → ∀ i, i ≤ j → z i ≤ z j
  | 0, _, i, hi => by obtain rfl : i = 0 := by omega
                      exact Nat.le_refl _
  | j + 1, hj, i, hi => by
    by_cases q : i = j + 1
    · subst q; exact Nat.le_refl _
    · exact Nat.le_trans (h.up j (by omega) i (by omega)) (h j (by omega)).2.2
/-- One store is turned inside its own blocks: the others stand. -/
theorem Fine.turn1 {x x' : World} {z : Nat → Nat} {n : Nat} {S : Nat → Sto} {U : Nat → Nat → Value} (h : Fine x z n S U) {k : Nat} (hk : k < n) (hw : Within (z k) (z (k + 1)) x x') (T : Sto) (hsz : T.nc = (S k).nc ∧ T.nl = (S k).nl ∧ T.nw = (S k).nw) (hst : St x' (z k) T (U k 0) (U k 1) (U k 2) ∧ FreeS x' T (U k 0) (U k 1) (U k 2)) :
    Fine x' z n (fun i => if i = k then T else S i) U := fun i hi => by
  obtain ⟨⟨h1, h2, h3⟩, h4, h5⟩ := h i hi
  by_cases q : i = k
  · subst q
    simp only [if_true]
    obtain ⟨e0, e1, e2⟩ := hsz
    refine ⟨⟨hst.1, hst.2, ?_⟩, ?_, h5⟩
    · unfold ApartD at h3 ⊢
      rw [e0, e1, e2]
      exact h3
    · unfold OwnIn at h4 ⊢
      rw [e0, e1, e2]
      exact h4
  · simp only [if_neg q]
    have ho : OwnIn (S i) (U i 0) (U i 1) (U i 2) (fun j => j < z k ∨ z (k + 1) ≤ j) := h4.mono (fun j hj => by
      rcases Nat.lt_or_ge i k with c | c
      · have := h.up k (by omega) (i + 1) (by omega)
        exact Or.inl (by omega)
      · have := h.up i (by omega) (k + 1) (by omega)
        exact Or.inr (by omega))
    exact ⟨⟨h1.within hw ho, h2.within h1 hw ho, h3⟩, h4, h5⟩
theorem FillS.within {w w' : World} {g n k B E : Nat} {U : Nat → Nat → Value} (h : FillS w g n k U) (hw : Within B E w w') (hg : g < B ∨ E ≤ g) : FillS w' g n k U := h.kept hw.size (hw.block g h.1 hg)
theorem Fine.congr {w : World} {z : Nat → Nat} {n : Nat} {S T : Nat → Sto} {U : Nat → Nat → Value} (h : Fine w z n S U) (e : ∀ i, i < n → S i = T i) : Fine w z n T U := fun i hi => by rw [← e i hi]; exact h i hi
def mixS (S : Nat → Sto) (k0 : Int) (k i : Nat) : Sto := if i < k then markK (S i) (k0 + (sumN (markT S) i : Nat)) else S i
theorem mix_same (S : Nat → Sto) (k0 : Int) (k i : Nat) : (mixS S k0 k i).nc = (S i).nc ∧ (mixS S k0 k i).nl = (S i).nl ∧ (mixS S k0 k i).nw = (S i).nw := by
  unfold mixS
  split <;> exact ⟨rfl, rfl, rfl⟩
set_option maxRecDepth 100000 in
set_option maxHeartbeats 8000000 in
theorem markStoreS_any (n cp g : Nat) (S : Nat → Sto) (U : Nat → Nat → Value) (z : Nat → Nat) (k0 : Int) (w : World) (hF : FillS w g n n U) (hf : Fine w z n S U) (hg : g < z 0) (hz : z n ≤ w.heap.size) (hs : ∀ i, i < n → SmallS (S i)) (ht : sumN (sizeT S) n ≤ 1048576) (h0 : 0 ≤ k0) (h1 : k0 ≤ 10000000) (hn : n ≤ 1048576) :
    Calls Tryz.prog 127 #[.slice (some ⟨g, 0, none⟩) n cp, .int .i64 k0] w fun e w' => e = .returned (.int .i64 (k0 + (sumN (markT S) n : Nat))) ∧ (FillS w' g n n U ∧ Fine w' z n (mixS S k0 n) U) ∧ Within (z 0) (z n) w w' := by
  have HF : Hid (FillS w g n n U ∧ Fine w z n S U ∧ g < z 0 ∧ z n ≤ w.heap.size) := ⟨hF, hf, hg, hz⟩
  have HN : Hid ((∀ i, i < n → SmallS (S i)) ∧ ∀ k, k ≤ n → sumN (markT S) k ≤ 5242880) := ⟨hs, fun k hk => by have := sum_mono (markT S) hk; have := markT_le S n; omega⟩
  clear hF hf hg hz hs ht
  go_enter Tryz.func127, Tryz.ntmps127
  go_wp2
  go_loopw [1, 5] (fun j i wr => ∃ (k c : Nat), k ≤ n ∧ j = .int .i64 (k0 + (c : Nat)) ∧ i = .int .i64 k ∧ Hid (c = sumN (markT S) k) ∧ Hid (Within (z 0) (z n) w wr ∧ FillS wr g n n U ∧ Fine wr z n (mixS S k0 k) U)) (fun _ i _ => n - (intOf i).toNat)
  case atStart => exact ⟨0, 0, Nat.zero_le _, by simp, rfl, rfl, Within.refl _ _ _, HF.out.1, HF.out.2.1.congr (fun i _ => by unfold mixS; rw [if_neg (Nat.not_lt_zero i)])⟩
  case round =>
    obtain ⟨k, c, hk, rfl, rfl, HC, HR⟩ := hrel
    have hcb : c ≤ 5242880 := by rw [HC.out]; exact HN.out.2 k hk
    by_cases hlt : k < n
    · obtain ⟨b0, b1, b2⟩ := HR.out.2.1.2.2 k hlt
      obtain ⟨⟨sk, fk, ak⟩, ok, uk⟩ := HR.out.2.2 k hlt
      have emx : mixS S k0 k k = S k := by unfold mixS; rw [if_neg (Nat.lt_irrefl k)]
      rw [emx] at sk fk ak ok
      obtain ⟨i0, d0, i1, d1, i2, d2, e0, e1, e2⟩ := sk.form
      obtain ⟨n0, hn0⟩ : ∃ x, (S k).nc = x := ⟨_, rfl⟩
      obtain ⟨n1, hn1⟩ : ∃ x, (S k).nl = x := ⟨_, rfl⟩
      obtain ⟨n2, hn2⟩ : ∃ x, (S k).nw = x := ⟨_, rfl⟩
      rw [e0, hn0] at b0
      rw [e1, hn1] at b1
      rw [e2, hn2] at b2
      have EU : Hid (U k 0 = .slice i0 n0 d0 ∧ U k 1 = .slice i1 n1 d1 ∧ U k 2 = .slice i2 n2 d2) := ⟨by rw [e0, hn0], by rw [e1, hn1], by rw [e2, hn2]⟩
      have hsm := HN.out.1 k hlt
      unfold SmallS at hsm
      rw [hn0, hn1, hn2] at hsm
      obtain ⟨m0, m1, m2⟩ := hsm
      have SK : Hid ((Row wr (z k) 3 n0 (S k).c (.slice i0 n0 d0) ∧ Row wr (z k) 5 n1 (S k).l (.slice i1 n1 d1) ∧ Row wr (z k) 4 n2 (S k).k (.slice i2 n2 d2)) ∧ Free wr (n0 * 3) (.slice i0 n0 d0) ∧ Free wr (n1 * 5) (.slice i1 n1 d1) ∧ Free wr (n2 * 4) (.slice i2 n2 d2)) := by
        rw [e0, e1, e2] at sk fk
        obtain ⟨x0, x1, x2⟩ := sk
        obtain ⟨y0, y1, y2⟩ := fk
        rw [hn0] at x0 y0
        rw [hn1] at x1 y1
        rw [hn2] at x2 y2
        exact ⟨⟨x0, x1, x2⟩, y0, y1, y2⟩
      have AK : Hid ((0 < n0 → 0 < n1 → (Value.slice i0 n0 d0).ownBlock ≠ (Value.slice i1 n1 d1).ownBlock) ∧ (0 < n0 → 0 < n2 → (Value.slice i0 n0 d0).ownBlock ≠ (Value.slice i2 n2 d2).ownBlock) ∧ (0 < n1 → 0 < n2 → (Value.slice i1 n1 d1).ownBlock ≠ (Value.slice i2 n2 d2).ownBlock)) := by
        unfold ApartD at ak
        rw [e0, e1, e2, hn0, hn1, hn2] at ak
        exact ak
      have OK : Hid ((0 < n0 → ∀ j, (Value.slice i0 n0 d0).ownBlock = some j → z k ≤ j ∧ j < z (k + 1)) ∧ (0 < n1 → ∀ j, (Value.slice i1 n1 d1).ownBlock = some j → z k ≤ j ∧ j < z (k + 1)) ∧ (0 < n2 → ∀ j, (Value.slice i2 n2 d2).ownBlock = some j → z k ≤ j ∧ j < z (k + 1))) := by
        unfold OwnIn at ok
        rw [e0, e1, e2, hn0, hn1, hn2] at ok
        exact ok
      have hgz : Hid (g < z k ∧ z 0 ≤ z k ∧ z (k + 1) ≤ z n) := ⟨by have := HF.out.2.2.1; have := HF.out.2.1.up k hk 0 (Nat.zero_le _); omega, HF.out.2.1.up k hk 0 (Nat.zero_le _), HF.out.2.1.up n (Nat.le_refl _) (k + 1) hlt⟩
      have HE : Hid ((S k).nc = n0 ∧ (S k).nl = n1 ∧ (S k).nw = n2) := ⟨hn0, hn1, hn2⟩
      have HC1 : Hid (c + n0 * 3 + n1 * 5 + n2 * 4 = sumN (markT S) (k + 1)) := by
        unfold Hid
        show _ = sumN (markT S) k + ((S k).nc * 3 + (S k).nl * 5 + (S k).nw * 4)
        rw [HC.out, hn0, hn1, hn2]
        omega
      clear sk fk ak ok uk emx e0 e1 e2 hn0 hn1 hn2
      go_wp2_with fail
      refine (markCellS_turn _ (z k) n0 (S k).c (k0 + (c : Nat)) _ SK.out.1.1 SK.out.2.1 m0 (by omega) (by omega)).mono ?_
      rintro e w1 ⟨rfl, r1, f1, g1⟩
      have W1 : Hid (Within (z k) (z (k + 1)) wr w1) := Within.of g1 (fun b q => by obtain ⟨h0, h1⟩ := turn_eq q; exact OK.out.1 h0 b h1)
      have x1 := apart_rows SK.out.1.1 SK.out.1.2.1 AK.out.1
      have x2 := apart_rows SK.out.1.1 SK.out.1.2.2 AK.out.2.1
      have SK1 : Hid ((Row w1 (z k) 3 n0 (fun p => k0 + (c : Nat) + (p : Nat)) (.slice i0 n0 d0) ∧ Row w1 (z k) 5 n1 (S k).l (.slice i1 n1 d1) ∧ Row w1 (z k) 4 n2 (S k).k (.slice i2 n2 d2)) ∧ Free w1 (n0 * 3) (.slice i0 n0 d0) ∧ Free w1 (n1 * 5) (.slice i1 n1 d1) ∧ Free w1 (n2 * 4) (.slice i2 n2 d2)) :=
        ⟨⟨r1, SK.out.1.2.1.turned g1 x1, SK.out.1.2.2.turned g1 x2⟩, f1, SK.out.2.2.1.turned SK.out.1.2.1 g1 x1, SK.out.2.2.2.turned SK.out.1.2.2 g1 x2⟩
      have FL1 : Hid (FillS w1 g n n U) := HR.out.2.1.within W1.out (Or.inl hgz.out.1)
      clear r1 f1 g1 x1 x2 b0 b1 b2 SK
      obtain ⟨b0, b1, b2⟩ := FL1.out.2.2 k hlt
      rw [EU.out.1] at b0
      rw [EU.out.2.1] at b1
      rw [EU.out.2.2] at b2
      go_wp2_with fail
      refine (markLockS_turn _ (z k) n1 (S k).l _ _ SK1.out.1.2.1 SK1.out.2.2.1 m1 (by omega) (by omega)).mono ?_
      rintro e w2 ⟨rfl, r2, f2, g2⟩
      have W2 : Hid (Within (z k) (z (k + 1)) wr w2) := W1.out.trans (Within.of g2 (fun b q => by obtain ⟨h0, h1⟩ := turn_eq q; exact OK.out.2.1 h0 b h1))
      have x0 := apart_rows SK1.out.1.2.1 SK1.out.1.1 (fun h1 h2 e => AK.out.1 h2 h1 e.symm)
      have x2 := apart_rows SK1.out.1.2.1 SK1.out.1.2.2 AK.out.2.2
      have SK2 : Hid ((Row w2 (z k) 3 n0 (fun p => k0 + (c : Nat) + (p : Nat)) (.slice i0 n0 d0) ∧ Row w2 (z k) 5 n1 (fun p => k0 + (c : Nat) + n0 * 3 + (p : Nat)) (.slice i1 n1 d1) ∧ Row w2 (z k) 4 n2 (S k).k (.slice i2 n2 d2)) ∧ Free w2 (n0 * 3) (.slice i0 n0 d0) ∧ Free w2 (n1 * 5) (.slice i1 n1 d1) ∧ Free w2 (n2 * 4) (.slice i2 n2 d2)) :=
        ⟨⟨SK1.out.1.1.turned g2 x0, r2, SK1.out.1.2.2.turned g2 x2⟩, SK1.out.2.1.turned SK1.out.1.1 g2 x0, f2, SK1.out.2.2.2.turned SK1.out.1.2.2 g2 x2⟩
      have FL2 : Hid (FillS w2 g n n U) := HR.out.2.1.within W2.out (Or.inl hgz.out.1)
      clear r2 f2 g2 x0 x2 b0 b1 b2 SK1 FL1 W1
      obtain ⟨b0, b1, b2⟩ := FL2.out.2.2 k hlt
      rw [EU.out.1] at b0
      rw [EU.out.2.1] at b1
      rw [EU.out.2.2] at b2
      go_wp2_with fail
      refine (markWriteS_turn _ (z k) n2 (S k).k _ _ SK2.out.1.2.2 SK2.out.2.2.2 m2 (by omega) (by omega)).mono ?_
      rintro e w3 ⟨rfl, r3, f3, g3⟩
      have W3 : Hid (Within (z k) (z (k + 1)) wr w3) := W2.out.trans (Within.of g3 (fun b q => by obtain ⟨h0, h1⟩ := turn_eq q; exact OK.out.2.2 h0 b h1))
      have x0 := apart_rows SK2.out.1.2.2 SK2.out.1.1 (fun h1 h2 e => AK.out.2.1 h2 h1 e.symm)
      have x1 := apart_rows SK2.out.1.2.2 SK2.out.1.2.1 (fun h1 h2 e => AK.out.2.2 h2 h1 e.symm)
      have SK3 : Hid (Fine w3 z n (mixS S k0 (k + 1)) U) := by
        have hm : (markK (S k) (k0 + (sumN (markT S) k : Nat))).nc = n0 ∧ (markK (S k) (k0 + (sumN (markT S) k : Nat))).nl = n1 ∧ (markK (S k) (k0 + (sumN (markT S) k : Nat))).nw = n2 := HE.out
        have h1 := HR.out.2.2.turn1 hlt W3.out (markK (S k) (k0 + (sumN (markT S) k : Nat))) (by have := mix_same S k0 k k; rw [this.1, this.2.1, this.2.2]; exact ⟨rfl, rfl, rfl⟩) (by
          rw [EU.out.1, EU.out.2.1, EU.out.2.2]
          unfold St FreeS markK
          simp only
          rw [HE.out.1, HE.out.2.1, HE.out.2.2, ← HC.out]
          exact ⟨⟨SK2.out.1.1.turned g3 x0, SK2.out.1.2.1.turned g3 x1, r3⟩, SK2.out.2.1.turned SK2.out.1.1 g3 x0, SK2.out.2.2.1.turned SK2.out.1.2.1 g3 x1, f3⟩)
        refine h1.congr (fun i hi => ?_)
        unfold mixS
        by_cases q : i = k
        · subst q; rw [if_pos rfl, if_pos (Nat.lt_succ_self i)]
        · rw [if_neg q]
          by_cases q2 : i < k
          · rw [if_pos q2, if_pos (by omega)]
          · rw [if_neg q2, if_neg (by omega)]
      have WW : Hid (Within (z 0) (z n) w w3) := HR.out.1.trans (W3.out.mono hgz.out.2.1 hgz.out.2.2)
      have FL3 : Hid (FillS w3 g n n U) := HR.out.2.1.within W3.out (Or.inl hgz.out.1)
      clear r3 f3 g3 x0 x1 b0 b1 b2 SK2 FL2 W2 W3 HR AK OK EU
      go_wp2
      go_roundw
      case rel => exact ⟨k + 1, c + n0 * 3 + n1 * 5 + n2 * 4, by omega, by congr 1; push_cast; omega, by go_num, HC1, WW.out, FL3.out, SK3.out⟩
      case measure => simp [intOf]; omega
    · obtain rfl : k = n := by omega
      go_wp2
      go_ret
      exact ⟨by rw [HC.out]; rfl, HR.out.2, HR.out.1⟩
end

section
open Go.RowKit
section
/-- No list of a store lies in block q. -/
def Spare (n : Nat) (S : Nat → Sto) (U : Nat → Nat → Value) (q : Nat) : Prop := ∀ i, i < n → OwnIn (S i) (U i 0) (U i 1) (U i 2) (fun p => p ≠ q)
end

section
open Go.RowKit
theorem Fine.within {w w' : World} {z : Nat → Nat} {n : Nat} {S : Nat → Sto} {U : Nat → Nat → Value} {B E : Nat} (h : Fine w z n S U) (hw : Within B E w w') (hz : ∀ i, i < n → E ≤ z i) : Fine w' z n S U := fun i hi => by
  obtain ⟨⟨h1, h2, h3⟩, h4, h5⟩ := h i hi
  have ho : OwnIn (S i) (U i 0) (U i 1) (U i 2) (fun j => j < B ∨ E ≤ j) := h4.mono (fun j hj => Or.inr (by have := hz i hi; omega))
  exact ⟨⟨h1.within hw ho, h2.within h1 hw ho, h3⟩, h4, h5⟩
end

section
open Go.RowKit
end

section
open Go.RowKit
theorem FillS.set {w : World} {g n k : Nat} {U : Nat → Nat → Value} (h : FillS w g n n U) (hk : k < n) (u0 u1 u2 : Value) : FillS (((w.setCell ⟨g, k * 3, none⟩ u0).setCell ⟨g, k * 3 + 1, none⟩ u1).setCell ⟨g, k * 3 + 2, none⟩ u2) g n n (putU U k u0 u1 u2) := by
  have h' : FillS w g n k U := ⟨h.1, h.2.1, fun i hi => h.2.2 i (by omega)⟩
  have hp := h'.put hk u0 u1 u2
  refine ⟨hp.1, hp.2.1, fun i hi => ?_⟩
  by_cases q : i < k + 1
  · exact hp.2.2 i q
  · have other : ∀ p, k * 3 + 3 ≤ p → (((w.setCell ⟨g, k * 3, none⟩ u0).setCell ⟨g, k * 3 + 1, none⟩ u1).setCell ⟨g, k * 3 + 2, none⟩ u2).cell? ⟨g, p, none⟩ = w.cell? ⟨g, p, none⟩ := fun p hp =>
      (World.cell?_setCell_other _ _ _ _ (by intro q; simp at q; try omega)).trans ((World.cell?_setCell_other _ _ _ _ (by intro q; simp at q; try omega)).trans (World.cell?_setCell_other _ _ _ _ (by intro q; simp at q; try omega)))
    obtain ⟨d0, d1, d2⟩ := h.2.2 i hi
    unfold putU
    rw [if_neg (by omega), if_neg (by omega), if_neg (by omega)]
    exact ⟨(other _ (by omega)).trans d0, (other _ (by omega)).trans d1, (other _ (by omega)).trans d2⟩
end
end
end Go.Proofs.YtpodcnmiaacndaaGreat

namespace Go.Proofs.YtpodcnmiaacndaaGreat
section
open Go.RowKit
end

section
open Go.RowKit
end

section
open Go.RowKit
end

section
open Go.RowKit
theorem ResRow.none {w w' : World} {c : Int} {e : Ending} {F : Nat → Int} (he : e = .returned (.agg #[.int .i64 c, .slice none 0 0])) (hb : Below w.heap.size w w') : ResRow 3 w c 0 F e w' :=
  ⟨Option.none, 0, he, ⟨_, _, rfl, fun q => absurd q (Nat.lt_irrefl 0)⟩, Free.of0 _ _, hb⟩
theorem Blk3.row {x : World} {b B : Nat} {F : Nat → Int} (h : Blk3 x b (.int .i64 (F 0)) (.int .i64 (F 1)) (.int .i64 (F 2))) (hB : B ≤ b) (cp : Nat) : Row x B 3 1 F (.slice (some ⟨b, 0, none⟩) 1 cp) ∧ Free x (1 * 3) (.slice (some ⟨b, 0, none⟩) 1 cp) := by
  have hl := h.lt
  obtain ⟨⟨h0, h1, h2⟩, f0, f1, f2⟩ := h
  refine ⟨⟨_, _, rfl, fun _ => ⟨b, 0, rfl, hB, hl, fun p hp => ?_⟩⟩, ?_⟩
  · match p, hp with
    | 0, _ => exact h0
    | 1, _ => exact h1
    | 2, _ => exact h2
  · intro g o n c hv p hp
    simp only [Value.slice.injEq, Option.some.injEq, Addr.mk.injEq] at hv
    obtain ⟨⟨rfl, rfl, _⟩, _, _⟩ := hv
    match p, hp with
    | 0, _ => exact f0
    | 1, _ => exact f1
    | 2, _ => exact f2
end
end Go.Proofs.YtpodcnmiaacndaaGreat

