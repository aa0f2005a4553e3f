/-
  Own text. spec.l1Key draws a key that stands for something; spec.l1Bent, spec.DrawPartsOf and spec.DrawKeysIn draw numbers: each returns, and turns nothing that was there.
-/
import Derived.Test.YtjimckfkbkfggaaDrawB
import Derived.Test.YtjimckfkbkfggaaKeysA
namespace Go.Proofs.Ytjimckfkbkfggaa
open Go.RowKit

set_option maxHeartbeats 1000000 in
theorem l1Key_any (w : World) (b : Nat) (o : Option Addr) (len cap : Nat) (a : Int) (h : Src w b o len cap a) (ha : a ≤ 900000) (hl : len ≤ 1048576) :
    Calls Try.prog 58 #[.pointer (some ⟨b, 0, none⟩)] w fun e w' => ∃ r : Int, e = .returned (.int .i64 r) ∧ faultOf r = 0 ∧ Src w' b o len cap (a + 5) ∧ But b w w' := by
  have H0 : Hid (Src w b o len cap a) := h
  have hp := h.pos
  clear h
  go_enter Try.func58, Try.ntmps58
  go_wp2_with fail
  refine (l1Next_any _ b o len cap a 4 H0.out (by omega) hl).mono ?_
  rintro e w1 ⟨r, rfl, r0, r1, hS, hT⟩
  have r4 : r < 4 := r1 (by omega)
  have H1 : Hid (Src w1 b o len cap (a + 1) ∧ But b w w1) := ⟨hS, hT⟩
  clear r1 hS hT
  go_wp2_with fail
  refine (l1Next_any _ b o len cap (a + 1) 3 H1.out.1 (by omega) hl).mono ?_
  rintro e w2 ⟨s, rfl, s0, s1, hS, hT⟩
  have s3 : s < 3 := s1 (by omega)
  have H2 : Hid (Src w2 b o len cap (a + 1 + 1) ∧ But b w w2) := ⟨hS, H1.out.2.trans hT⟩
  clear s1 hS hT H1
  go_wp2_with fail
  refine (l1Next_any _ b o len cap (a + 1 + 1) 3 H2.out.1 (by omega) hl).mono ?_
  rintro e w3 ⟨t, rfl, t0, t1, hS, hT⟩
  have t3 : t < 3 := t1 (by omega)
  have H3 : Hid (Src w3 b o len cap (a + 1 + 1 + 1) ∧ But b w w3) := ⟨hS, H2.out.2.trans hT⟩
  clear t1 hS hT H2
  go_wp2_with fail
  refine (l1Next_any _ b o len cap (a + 1 + 1 + 1) 3 H3.out.1 (by omega) hl).mono ?_
  rintro e w4 ⟨u, rfl, u0, u1, hS, hT⟩
  have u3 : u < 3 := u1 (by omega)
  have H4 : Hid (Src w4 b o len cap (a + 1 + 1 + 1 + 1) ∧ But b w w4) := ⟨hS, H3.out.2.trans hT⟩
  clear u1 hS hT H3
  go_wp2_with fail
  have hI : Ints (w4.alloc (.cells #[.int .i64 0, .int .i64 (10 + r), .int .i64 (20 + 10 * s + t), .int .i64 (180 + u)] 2)) w4.heap.size (.slice (some ⟨w4.heap.size, 0, none⟩) 4 4) [0, 10 + r, 20 + 10 * s + t, 180 + u] := World.ownsRow_lit w4 #[.int .i64 0, .int .i64 (10 + r), .int .i64 (20 + 10 * s + t), .int .i64 (180 + u)] 4 (Nat.le_refl _) (by decide) rfl
  refine (l1Pick_any _ b o len cap (a + 1 + 1 + 1 + 1) _ w4.heap.size [0, 10 + r, 20 + 10 * s + t, 180 + u] (H4.out.1.alloc _) (by omega) hl hI H4.out.1.lt (by simp) (by simp)).mono ?_
  rintro e w5 ⟨k, rfl, hk, hS, hT⟩
  have HR : Hid (faultOf k = 0 ∧ Src w5 b o len cap (a + 5) ∧ But b w w5) := by
    refine ⟨?_, ?_, (H4.out.2.alloc _).trans hT⟩
    · simp only [List.mem_cons, List.not_mem_nil, or_false] at hk
      apply faultOf_ok
      omega
    · have e5 : a + 1 + 1 + 1 + 1 + 1 = a + 5 := by omega
      rw [e5] at hS; exact hS
  clear hk hS hT hI H4
  go_wp2
  go_ret
  exact ⟨_, rfl, HR.out⟩
theorem fault_zero' {key : Int} (h : faultOf key = 0) : 0 ≤ key ∧ key ≤ 199 := by
  constructor
  · apply Classical.byContradiction; intro hn
    rw [faultOf_range (Or.inl (by omega))] at h; omega
  · apply Classical.byContradiction; intro hn
    rw [faultOf_range (Or.inr (by omega))] at h; omega

set_option maxHeartbeats 1000000 in
theorem l1Bent_any (w : World) (b : Nat) (o : Option Addr) (len cap : Nat) (a : Int) (h : Src w b o len cap a) (ha : a ≤ 800000) (hl : len ≤ 1048576) :
    Calls Try.prog 40 #[.pointer (some ⟨b, 0, none⟩)] w fun e w' => ∃ r : Int, e = .returned (.int .i64 r) ∧ -1 ≤ r ∧ r ≤ 200 ∧ Src w' b o len cap (a + 17) ∧ But b w w' := by
  have H0 : Hid (Src w b o len cap a ∧ But b w w) := ⟨h, But.refl _ _⟩
  have hp := h.pos
  clear h
  go_enter Try.func40, Try.ntmps40
  go_wp2_with fail
  refine (l1Key_any _ b o len cap (a) H0.out.1 (by omega) hl).mono ?_
  rintro e w1 ⟨k1, rfl, f1, hS, hT⟩
  have H1 : Hid (Src w1 b o len cap (a + 5) ∧ But b w w1) := ⟨hS, H0.out.2.trans hT⟩
  have g1 := fault_zero' f1
  clear hS hT H0 f1
  go_wp2_with fail
  refine (l1Key_any _ b o len cap (a + 5) H1.out.1 (by omega) hl).mono ?_
  rintro e w2 ⟨k2, rfl, f2, hS, hT⟩
  have H2 : Hid (Src w2 b o len cap (a + 5 + 5) ∧ But b w w2) := ⟨hS, H1.out.2.trans hT⟩
  have g2 := fault_zero' f2
  clear hS hT H1 f2
  go_wp2_with fail
  refine (l1Key_any _ b o len cap (a + 5 + 5) H2.out.1 (by omega) hl).mono ?_
  rintro e w3 ⟨k3, rfl, f3, hS, hT⟩
  have H3 : Hid (Src w3 b o len cap (a + 5 + 5 + 5) ∧ But b w w3) := ⟨hS, H2.out.2.trans hT⟩
  have g3 := fault_zero' f3
  clear hS hT H2 f3
  go_wp2_with fail
  refine (l1Next_any _ b o len cap (a + 5 + 5 + 5) 200 H3.out.1 (by omega) hl).mono ?_
  rintro e w4 ⟨u, rfl, u0, u1, hS, hT⟩
  have u2 : u < 200 := u1 (by omega)
  have H4 : Hid (Src w4 b o len cap (a + 5 + 5 + 5 + 1) ∧ But b w w4) := ⟨hS, H3.out.2.trans hT⟩
  clear u1 hS hT H3
  go_wp2_with fail
  have hI : Ints (w4.alloc (.cells #[.int .i64 k1, .int .i64 k2, .int .i64 k3, .int .i64 u, .int .i64 (-1), .int .i64 200] 2)) w4.heap.size (.slice (some ⟨w4.heap.size, 0, none⟩) 6 6) [k1, k2, k3, u, -1, 200] := World.ownsRow_lit w4 #[.int .i64 k1, .int .i64 k2, .int .i64 k3, .int .i64 u, .int .i64 (-1), .int .i64 200] 6 (Nat.le_refl _) (by decide) rfl
  refine (l1Pick_any _ b o len cap (a + 5 + 5 + 5 + 1) _ w4.heap.size [k1, k2, k3, u, -1, 200] (H4.out.1.alloc _) (by omega) hl hI H4.out.1.lt (by simp) (by simp)).mono ?_
  rintro e w5 ⟨k, rfl, hk, hS, hT⟩
  have HR : Hid (-1 ≤ k ∧ k ≤ 200 ∧ Src w5 b o len cap (a + 17) ∧ But b w w5) := by
    simp only [List.mem_cons, List.not_mem_nil, or_false] at hk
    have e5 : a + 5 + 5 + 5 + 1 + 1 = a + 17 := by omega
    rw [e5] at hS
    exact ⟨by omega, by omega, hS, (H4.out.2.alloc _).trans hT⟩
  clear hk hS hT hI H4
  go_wp2
  go_ret
  exact ⟨_, rfl, HR.out⟩

end Go.Proofs.Ytjimckfkbkfggaa
