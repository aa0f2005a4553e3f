/-
  Own text. Chapter 11: what is told of a list of pairs, by the model and by the program.
-/
import Derived.Test.YtdbcmckoiacemaaPaiA
import Derived.Test.YtdbcmckoiacemaaTxnD
import Derived.Test.YtdbcmckoiacemaaColsM
namespace Go.Proofs.Ytdbcmckoiacemaa
open Go.RowKit

/-- What is told of the pair at place k. -/
def pairF (F : Nat → Int) (k : Nat) : Int := if faultOf (F (k * 2)) ≠ 0 then faultOf (F (k * 2)) else if ¬ (0 ≤ F (k * 2 + 1) ∧ F (k * 2 + 1) ≤ 9999) then 3 else if 0 < k ∧ F (k * 2) ≤ F ((k - 1) * 2) then 1 else 0
/-- What is told of m pairs from place k on. -/
def pairsF (F : Nat → Int) : Nat → Nat → Int
  | 0, _ => 0
  | m + 1, k => if pairF F k ≠ 0 then pairF F k else pairsF F m (k + 1)
theorem pairsF_bad {F : Nat → Int} {m k : Nat} {f : Int} (hm : 0 < m) (h : pairF F k = f) (h0 : f ≠ 0) : pairsF F m k = f := by
  obtain ⟨m, rfl⟩ : ∃ q, m = q + 1 := ⟨m - 1, by omega⟩
  rw [pairsF, if_pos (by rw [h]; exact h0), h]
theorem pairsF_on {F : Nat → Int} {m k : Nat} (hm : 0 < m) (h : pairF F k = 0) : pairsF F m k = pairsF F (m - 1) (k + 1) := by
  obtain ⟨m, rfl⟩ : ∃ q, m = q + 1 := ⟨m - 1, by omega⟩
  rw [pairsF, if_neg (fun q => q h)]; rfl
theorem pairF_key {F : Nat → Int} {k : Nat} {n0 : Int} (h0 : F (k * 2) = n0) (h : faultOf n0 ≠ 0) : pairF F k = faultOf n0 := by unfold pairF; rw [h0, if_pos h]
theorem pairF_val {F : Nat → Int} {k : Nat} {n0 n1 : Int} (h0 : F (k * 2) = n0) (h1 : F (k * 2 + 1) = n1) (h : faultOf n0 = 0) (h2 : ¬ (0 ≤ n1 ∧ n1 ≤ 9999)) : pairF F k = 3 := by unfold pairF; rw [h0, h1, if_neg (fun q => q h), if_pos h2]
theorem pairF_form {F : Nat → Int} {k : Nat} {n0 n1 p : Int} (h0 : F (k * 2) = n0) (h1 : F (k * 2 + 1) = n1) (hp : F ((k - 1) * 2) = p) (h : faultOf n0 = 0) (h2 : 0 ≤ n1 ∧ n1 ≤ 9999) (hk : 0 < k) (h3 : n0 ≤ p) : pairF F k = 1 := by unfold pairF; rw [h0, h1, hp, if_neg (fun q => q h), if_neg (fun q => q h2), if_pos ⟨hk, h3⟩]
theorem pairF_ok {F : Nat → Int} {k : Nat} {n0 n1 p : Int} (h0 : F (k * 2) = n0) (h1 : F (k * 2 + 1) = n1) (hp : F ((k - 1) * 2) = p) (h : faultOf n0 = 0) (h2 : 0 ≤ n1 ∧ n1 ≤ 9999) (h3 : ¬ (0 < k ∧ n0 ≤ p)) : pairF F k = 0 := by unfold pairF; rw [h0, h1, hp, if_neg (fun q => q h), if_neg (fun q => q h2), if_neg h3]

theorem below_dn {B : Nat} {a w : World} (h : Below B a w) (q : Nat) : Below B a (w.drewN q) := ⟨h.os, h.tape, h.output, h.size, h.block⟩

set_option maxRecDepth 100000 in
set_option maxHeartbeats 4000000 in
theorem specPairs_any (v : Value) (B n : Nat) (F : Nat → Int) (w : World) (h : Row w B 2 n F v) (hn : n ≤ 1048576) :
    Calls Try.prog 16 #[v] w fun e w' => e = .returned (.int .i64 (pairsF F n 0)) ∧ Below w.heap.size w w' := by
  obtain ⟨ao, cp, rfl⟩ := h.form
  have H : Hid (Row w B 2 n F (.slice ao n cp)) := h
  clear h
  obtain ⟨f, hf⟩ : ∃ f, pairsF F n 0 = f := ⟨_, rfl⟩
  have HF : Hid (pairsF F n 0 = f) := hf
  rw [hf]
  clear hf
  go_enter Try.func16, Try.ntmps16
  go_wp2
  go_loopw [3] (fun i wr => ∃ k : Nat, k ≤ n ∧ i = .int .i64 k ∧ Hid (pairsF F (n - k) k = f) ∧ Hid (Below w.heap.size w wr)) (fun i _ => n - (intOf i).toNat)
  case atStart => exact ⟨0, Nat.zero_le _, rfl, HF, Below.refl _ _⟩
  case round =>
    obtain ⟨k, hk, rfl, HS, HB⟩ := hrel
    by_cases hlt : k < n
    case neg =>
      have en : n - k = 0 := by omega
      have E : Hid (f = 0) := by
        have := HS.out
        rw [en, pairsF] at this
        exact this.symm
      clear HS HF
      go_wp2
      go_ret
      exact ⟨by rw [E.out]; rfl, HB.out⟩
    have hrow := H.out.later HB.out
    obtain ⟨g, o, rfl, _, hg, x0, x1⟩ := hrow.at2 hlt
    have hm : Hid (0 < n - k ∧ n - k - 1 = n - (k + 1)) := ⟨by omega, by omega⟩
    obtain ⟨n0, N0⟩ : ∃ x, F (k * 2) = x := ⟨_, rfl⟩
    rw [N0] at x0
    obtain ⟨n1, N1⟩ : ∃ x, F (k * 2 + 1) = x := ⟨_, rfl⟩
    rw [N1] at x1
    have NN : Hid (F (k * 2) = n0 ∧ F (k * 2 + 1) = n1) := ⟨N0, N1⟩
    clear N0 N1
    by_cases h5 : faultOf n0 = 0
    case neg =>
      obtain ⟨q, hq⟩ : ∃ q, faultOf n0 = q := ⟨_, rfl⟩
      have HQ : Hid (faultOf n0 = q) := hq
      have E : Hid (f = q) := by
        have E0 := HS.out
        rw [pairsF_bad (f := q) hm.out.1 (by rw [pairF_key NN.out.1 h5]; exact hq) (by rw [← hq]; exact h5)] at E0
        exact E0.symm
      have d : (q != 0) = true := bne_iff_ne.2 (by rw [← hq]; exact h5)
      clear h5 hq HS HF
      go_wp2_with fail
      refine (l1Fault_any _ _).mono ?_
      rintro e w9 ⟨rfl, hw9⟩
      obtain rfl := hw9.symm
      rw [HQ.out]
      go_wp2
      go_ret
      refine ⟨by rw [E.out]; rfl, ?_⟩
      repeat (first | exact Below.refl _ _ | exact HB.out | refine below_dn ?_ _ | refine Below.setCell ?_ (by first | omega | (simp <;> omega) | (have := HB.out.size; simp <;> omega)) _ | refine Below.alloc ?_ (by first | omega | (simp <;> omega) | (have := HB.out.size; simp <;> omega)) _)
    have HK : Hid (faultOf n0 = 0) := h5
    clear h5
    by_cases h6 : 0 ≤ n1 ∧ n1 ≤ 9999
    case neg =>
      have E : Hid (f = 3) := by
        have E0 := HS.out
        rw [pairsF_bad (f := 3) hm.out.1 (pairF_val NN.out.1 NN.out.2 HK.out h6) (by omega)] at E0
        exact E0.symm
      have HV : Hid (decide ((0 : Int) ≤ n1 ∧ n1 ≤ 9999) = false) := decide_eq_false h6
      clear h6 HS HF
      go_wp2_with fail
      refine (l1Fault_any _ _).mono ?_
      rintro e w9 ⟨rfl, hw9⟩
      obtain rfl := hw9.symm
      rw [HK.out]
      go_wp2_with fail
      refine (inT_is _ _ _ false HV.out _).mono ?_
      rintro e w9 ⟨rfl, hw9⟩
      obtain rfl := hw9.symm
      go_wp2
      go_ret
      exact ⟨by rw [E.out]; rfl, HB.out⟩
    have HV : Hid (decide ((0 : Int) ≤ n1 ∧ n1 ≤ 9999) = true) := decide_eq_true h6
    rcases Nat.eq_zero_or_pos k with hk0 | hk0
    · have E : Hid (pairsF F (n - (k + 1)) (k + 1) = f) := by
        have E0 := HS.out
        rw [pairsF_on hm.out.1 (pairF_ok NN.out.1 NN.out.2 rfl HK.out h6 (fun q => absurd q.1 (by omega))), hm.out.2] at E0
        exact E0
      clear h6 HS HF
      subst hk0
      simp only [Nat.zero_mul, Nat.add_zero] at x0 x1
      go_wp2_with fail
      refine (l1Fault_any _ _).mono ?_
      rintro e w9 ⟨rfl, hw9⟩
      obtain rfl := hw9.symm
      rw [HK.out]
      go_wp2_with fail
      refine (inT_is _ _ _ true HV.out _).mono ?_
      rintro e w9 ⟨rfl, hw9⟩
      obtain rfl := hw9.symm
      go_wp2_with fail
      go_quiet (fail)
      go_wp2
      go_roundw
      case rel =>
        refine ⟨0 + 1, by omega, by go_num, E, ?_⟩
        show Below _ _ _
        repeat (first | exact Below.refl _ _ | exact HB.out | refine below_dn ?_ _ | refine Below.setCell ?_ (by first | omega | (simp <;> omega) | (have := HB.out.size; simp <;> omega)) _ | refine Below.alloc ?_ (by first | omega | (simp <;> omega) | (have := HB.out.size; simp <;> omega)) _)
      case measure => simp [intOf]; omega
    obtain ⟨g', o', hgo, _, _, p0, p1⟩ := hrow.at2 (k := k - 1) (by omega)
    obtain ⟨rfl, rfl⟩ : g = g' ∧ o = o' := by simpa using hgo
    obtain ⟨p, P⟩ : ∃ x, F ((k - 1) * 2) = x := ⟨_, rfl⟩
    rw [P] at p0
    have hsub : ((k : Int) - 1) = ((k - 1 : Nat) : Int) := by omega
    have hlt' : k - 1 < n := by omega
    have d : decide ((k : Int) > 0) = true := decide_eq_true (by omega)
    clear hgo p1 hrow
    by_cases h7 : n0 ≤ p
    · have E : Hid (f = 1) := by
        have E0 := HS.out
        rw [pairsF_bad (f := 1) hm.out.1 (pairF_form NN.out.1 NN.out.2 P HK.out h6 hk0 h7) (by omega)] at E0
        exact E0.symm
      clear h6 HS HF
      go_wp2_with fail
      refine (l1Fault_any _ _).mono ?_
      rintro e w9 ⟨rfl, hw9⟩
      obtain rfl := hw9.symm
      rw [HK.out]
      go_wp2_with fail
      refine (inT_is _ _ _ true HV.out _).mono ?_
      rintro e w9 ⟨rfl, hw9⟩
      obtain rfl := hw9.symm
      go_wp2_with fail
      go_quiet (fail)
      go_wp2
      go_ret
      refine ⟨by rw [E.out]; rfl, ?_⟩
      repeat (first | exact Below.refl _ _ | exact HB.out | refine below_dn ?_ _ | refine Below.setCell ?_ (by first | omega | (simp <;> omega) | (have := HB.out.size; simp <;> omega)) _ | refine Below.alloc ?_ (by first | omega | (simp <;> omega) | (have := HB.out.size; simp <;> omega)) _)
    · have E : Hid (pairsF F (n - (k + 1)) (k + 1) = f) := by
        have E0 := HS.out
        rw [pairsF_on hm.out.1 (pairF_ok NN.out.1 NN.out.2 P HK.out h6 (fun q => h7 q.2)), hm.out.2] at E0
        exact E0
      clear h6 HS HF
      go_wp2_with fail
      refine (l1Fault_any _ _).mono ?_
      rintro e w9 ⟨rfl, hw9⟩
      obtain rfl := hw9.symm
      rw [HK.out]
      go_wp2_with fail
      refine (inT_is _ _ _ true HV.out _).mono ?_
      rintro e w9 ⟨rfl, hw9⟩
      obtain rfl := hw9.symm
      go_wp2_with fail
      go_quiet (fail)
      go_wp2
      go_roundw
      case rel =>
        refine ⟨k + 1, by omega, by go_num, E, ?_⟩
        show Below _ _ _
        repeat (first | exact Below.refl _ _ | exact HB.out | refine below_dn ?_ _ | refine Below.setCell ?_ (by first | omega | (simp <;> omega) | (have := HB.out.size; simp <;> omega)) _ | refine Below.alloc ?_ (by first | omega | (simp <;> omega) | (have := HB.out.size; simp <;> omega)) _)
      case measure => simp [intOf]; omega
end Go.Proofs.Ytdbcmckoiacemaa
