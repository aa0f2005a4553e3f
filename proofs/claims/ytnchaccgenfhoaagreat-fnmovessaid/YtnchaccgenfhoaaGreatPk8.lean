/-
  Own text, merged of PlnF, PlnG, AplB, LwaA, MovB.
-/
import Derived.Test.YtnchaccgenfhoaaGreatPk7
namespace Go.Proofs.YtnchaccgenfhoaaGreat
open Go.RowKit

theorem DrB.put0B {w x : World} {b : Nat} {o : Option Addr} {len cap g : Nat} {kd d n td tn v a : Int} (h : DrB w b o len cap g kd d n td tn v a x) {a0 : Int} (h0 : Src w b o len cap a0) (u : Int) :
    DrB w b o len cap g u d n td tn v a (x.setCell ⟨g, 0, none⟩ (.int .i64 u)) := by
  refine ⟨h.dr.set h0 h.lt _ _, ?_, h.lt⟩
  obtain ⟨⟨c0, c1, c2, c3, c4, c5⟩, f0, f1, f2, f3, f4, f5⟩ := h.box
  refine ⟨⟨?_, ?_, ?_, ?_, ?_, ?_⟩, by simpa using f0, by simpa using f1, by simpa using f2, by simpa using f3, by simpa using f4, by simpa using f5⟩
  · exact World.cell?_setCell_same _ _ _ c0
  · exact setCell_otherE (by decide) c1
  · exact setCell_otherE (by decide) c2
  · exact setCell_otherE (by decide) c3
  · exact setCell_otherE (by decide) c4
  · exact setCell_otherE (by decide) c5
theorem DrB.put1B {w x : World} {b : Nat} {o : Option Addr} {len cap g : Nat} {kd d n td tn v a : Int} (h : DrB w b o len cap g kd d n td tn v a x) {a0 : Int} (h0 : Src w b o len cap a0) (u : Int) :
    DrB w b o len cap g kd u n td tn v a (x.setCell ⟨g, 1, none⟩ (.int .i64 u)) := by
  refine ⟨h.dr.set h0 h.lt _ _, ?_, h.lt⟩
  obtain ⟨⟨c0, c1, c2, c3, c4, c5⟩, f0, f1, f2, f3, f4, f5⟩ := h.box
  refine ⟨⟨?_, ?_, ?_, ?_, ?_, ?_⟩, by simpa using f0, by simpa using f1, by simpa using f2, by simpa using f3, by simpa using f4, by simpa using f5⟩
  · exact setCell_otherE (by decide) c0
  · exact World.cell?_setCell_same _ _ _ c1
  · exact setCell_otherE (by decide) c2
  · exact setCell_otherE (by decide) c3
  · exact setCell_otherE (by decide) c4
  · exact setCell_otherE (by decide) c5
theorem DrB.put2B {w x : World} {b : Nat} {o : Option Addr} {len cap g : Nat} {kd d n td tn v a : Int} (h : DrB w b o len cap g kd d n td tn v a x) {a0 : Int} (h0 : Src w b o len cap a0) (u : Int) :
    DrB w b o len cap g kd d u td tn v a (x.setCell ⟨g, 2, none⟩ (.int .i64 u)) := by
  refine ⟨h.dr.set h0 h.lt _ _, ?_, h.lt⟩
  obtain ⟨⟨c0, c1, c2, c3, c4, c5⟩, f0, f1, f2, f3, f4, f5⟩ := h.box
  refine ⟨⟨?_, ?_, ?_, ?_, ?_, ?_⟩, by simpa using f0, by simpa using f1, by simpa using f2, by simpa using f3, by simpa using f4, by simpa using f5⟩
  · exact setCell_otherE (by decide) c0
  · exact setCell_otherE (by decide) c1
  · exact World.cell?_setCell_same _ _ _ c2
  · exact setCell_otherE (by decide) c3
  · exact setCell_otherE (by decide) c4
  · exact setCell_otherE (by decide) c5
theorem intsP0 (x : World) (g : Nat) (hg : x.heap.size = g) : Ints (x.alloc (.cells #[.int .i64 0, .int .i64 9, .int .i64 1, .int .i64 6] 2)) g (.slice (some ⟨g, 0, none⟩) 4 4) [0, 9, 1, 6] := hg ▸ World.ownsRow_lit x #[.int .i64 0, .int .i64 9, .int .i64 1, .int .i64 6] 4 (Nat.le_refl _) (by decide) rfl
theorem intsP1 (x : World) (g : Nat) (hg : x.heap.size = g) : Ints (x.alloc (.cells #[.int .i64 (-1), .int .i64 10, .int .i64 9] 2)) g (.slice (some ⟨g, 0, none⟩) 3 3) [-1, 10, 9] := hg ▸ World.ownsRow_lit x #[.int .i64 (-1), .int .i64 10, .int .i64 9] 3 (Nat.le_refl _) (by decide) rfl
theorem intsP2 (x : World) (g : Nat) (hg : x.heap.size = g) : Ints (x.alloc (.cells #[.int .i64 (-1), .int .i64 6, .int .i64 5] 2)) g (.slice (some ⟨g, 0, none⟩) 3 3) [-1, 6, 5] := hg ▸ World.ownsRow_lit x #[.int .i64 (-1), .int .i64 6, .int .i64 5] 3 (Nat.le_refl _) (by decide) rfl
theorem intsP3 (x : World) (g : Nat) (hg : x.heap.size = g) : Ints (x.alloc (.cells #[.int .i64 10, .int .i64 3] 2)) g (.slice (some ⟨g, 0, none⟩) 2 2) [10, 3] := hg ▸ World.ownsRow_lit x #[.int .i64 10, .int .i64 3] 2 (Nat.le_refl _) (by decide) rfl
theorem intsP4 (x : World) (g : Nat) (hg : x.heap.size = g) : Ints (x.alloc (.cells #[.int .i64 (-1), .int .i64 10000, .int .i64 5] 2)) g (.slice (some ⟨g, 0, none⟩) 3 3) [-1, 10000, 5] := hg ▸ World.ownsRow_lit x #[.int .i64 (-1), .int .i64 10000, .int .i64 5] 3 (Nat.le_refl _) (by decide) rfl
set_option maxRecDepth 100000 in
set_option maxHeartbeats 4000000 in
theorem l13Bent_any (w : World) (b : Nat) (o : Option Addr) (len cap : Nat) (a : Int) (h : Src w b o len cap a) (ha : a ≤ 800000) (hl : len ≤ 1048576) :
    Calls Tryz.prog 44 #[.pointer (some ⟨b, 0, none⟩)] w fun e w' => ∃ kd d n td tn v a1 : Int, e = .returned (.agg #[.int .i64 kd, .int .i64 d, .int .i64 n, .int .i64 td, .int .i64 tn, .int .i64 v]) ∧ a1 ≤ a + 8 ∧ Src w' b o len cap a1 ∧ But b w w' := by
  have H : Hid (Src w b o len cap a) := h
  have hbl := h.lt
  have H0 : Hid (DrO w b o len cap a (w.alloc zeroO)) := ⟨h.alloc _, (But.refl _ _).alloc _, Blk6.new w _ _ _ _ _ _ _⟩
  clear h
  go_enter Tryz.func44, Tryz.ntmps44
  go_wp2_with fail
  refine (l13Draw_any _ b o len cap a H0.out.src (by omega) hl).mono ?_
  rintro e w1 ⟨kd, d, n, td, tn, v, a1, rfl, _, ha1, hS, hT⟩
  have HW : Hid (DrO w b o len cap a1 w1) := H0.out.step hbl hS hT
  have H1 : Hid (DrB w b o len cap w1.heap.size kd d n td tn v a1 (w1.alloc (.cells #[.int .i64 kd, .int .i64 d, .int .i64 n, .int .i64 td, .int .i64 tn, .int .i64 v] 26))) := ⟨HW.out.alloc _, Blk6.new w1 _ _ _ _ _ _ _, HW.out.res.lt⟩
  clear hS hT H0
  go_wp2_with fail
  refine (l1Next_any _ b o len cap a1 12 H1.out.dr.src (by omega) hl).mono ?_
  rintro e w2 ⟨s, rfl, s0, _, hS, hT⟩
  have H2 : Hid (DrB w b o len cap w1.heap.size kd d n td tn v (a1 + 1) w2) := H1.out.step hbl hS hT
  clear hS hT H1 HW
  by_cases e0 : s = 0
  · subst e0
    go_wp2_with fail
    refine (l1Pick_any _ b o len cap (a1 + 1) _ _ [0, 9, 1, 6] (H2.out.dr.src.alloc _) (by omega) hl (intsP0 w2 w2.heap.size rfl) H2.out.dr.src.lt (by simp) (by simp)).mono ?_
    rintro e w3 ⟨u, rfl, _, hS, hT⟩
    have H4 : Hid (DrB w b o len cap w1.heap.size kd d n td tn v (a1 + 1 + 1) w3) := (H2.out.alloc _).step hbl hS hT
    clear hS hT H2
    obtain ⟨⟨z0, z1, z2, z3, z4, z5⟩, f0, f1, f2, f3, f4, f5⟩ := H4.out.box
    have H5 : Hid (DrB w b o len cap w1.heap.size u d n td tn v (a1 + 1 + 1) (w3.setCell ⟨w1.heap.size, 0, none⟩ (.int .i64 u))) := H4.out.put0B H.out u
    have KL := hidPln (H5.out.dr.res.putAll (.int .i64 u) (.int .i64 d) (.int .i64 n) (.int .i64 td) (.int .i64 tn) (.int .i64 v))
    obtain ⟨⟨r0, r1, r2, r3, r4, r5⟩, g0, g1, g2, g3, g4, g5⟩ := H4.out.dr.res
    have hgl := H4.out.lt
    clear H4
    go_wp2
    obtain ⟨⟨k0, k1, k2, k3, k4, k5⟩, _⟩ := KL.out
    refine bodyPost_ret (v := .agg #[.int .i64 u, .int .i64 d, .int .i64 n, .int .i64 td, .int .i64 tn, .int .i64 v]) (by simp [results, Tryz.results44, go_sem, k0, k1, k2, k3, k4, k5]) rfl ?_
    exact ⟨_, _, _, _, _, _, _, rfl, by omega, H5.out.dr.fin H.out _ _ _ _ _ _⟩
  have d0 : (s == 0) = false := beq_eq_false_iff_ne.2 e0
  by_cases e1 : s = 1
  · subst e1
    go_wp2_with fail
    refine (l1Pick_any _ b o len cap (a1 + 1) _ _ [-1, 10, 9] (H2.out.dr.src.alloc _) (by omega) hl (intsP1 w2 w2.heap.size rfl) H2.out.dr.src.lt (by simp) (by simp)).mono ?_
    rintro e w3 ⟨u, rfl, _, hS, hT⟩
    have H4 : Hid (DrB w b o len cap w1.heap.size kd d n td tn v (a1 + 1 + 1) w3) := (H2.out.alloc _).step hbl hS hT
    clear hS hT H2
    obtain ⟨⟨z0, z1, z2, z3, z4, z5⟩, f0, f1, f2, f3, f4, f5⟩ := H4.out.box
    have H5 : Hid (DrB w b o len cap w1.heap.size kd u n td tn v (a1 + 1 + 1) (w3.setCell ⟨w1.heap.size, 1, none⟩ (.int .i64 u))) := H4.out.put1B H.out u
    have KL := hidPln (H5.out.dr.res.putAll (.int .i64 kd) (.int .i64 u) (.int .i64 n) (.int .i64 td) (.int .i64 tn) (.int .i64 v))
    obtain ⟨⟨r0, r1, r2, r3, r4, r5⟩, g0, g1, g2, g3, g4, g5⟩ := H4.out.dr.res
    have hgl := H4.out.lt
    clear H4
    go_wp2
    obtain ⟨⟨k0, k1, k2, k3, k4, k5⟩, _⟩ := KL.out
    refine bodyPost_ret (v := .agg #[.int .i64 kd, .int .i64 u, .int .i64 n, .int .i64 td, .int .i64 tn, .int .i64 v]) (by simp [results, Tryz.results44, go_sem, k0, k1, k2, k3, k4, k5]) rfl ?_
    exact ⟨_, _, _, _, _, _, _, rfl, by omega, H5.out.dr.fin H.out _ _ _ _ _ _⟩
  have d1 : (s == 1) = false := beq_eq_false_iff_ne.2 e1
  by_cases e2 : s = 2
  · subst e2
    go_wp2_with fail
    refine (l1Pick_any _ b o len cap (a1 + 1) _ _ [-1, 6, 5] (H2.out.dr.src.alloc _) (by omega) hl (intsP2 w2 w2.heap.size rfl) H2.out.dr.src.lt (by simp) (by simp)).mono ?_
    rintro e w3 ⟨u, rfl, _, hS, hT⟩
    have H4 : Hid (DrB w b o len cap w1.heap.size kd d n td tn v (a1 + 1 + 1) w3) := (H2.out.alloc _).step hbl hS hT
    clear hS hT H2
    obtain ⟨⟨z0, z1, z2, z3, z4, z5⟩, f0, f1, f2, f3, f4, f5⟩ := H4.out.box
    have H5 : Hid (DrB w b o len cap w1.heap.size kd d u td tn v (a1 + 1 + 1) (w3.setCell ⟨w1.heap.size, 2, none⟩ (.int .i64 u))) := H4.out.put2B H.out u
    have KL := hidPln (H5.out.dr.res.putAll (.int .i64 kd) (.int .i64 d) (.int .i64 u) (.int .i64 td) (.int .i64 tn) (.int .i64 v))
    obtain ⟨⟨r0, r1, r2, r3, r4, r5⟩, g0, g1, g2, g3, g4, g5⟩ := H4.out.dr.res
    have hgl := H4.out.lt
    clear H4
    go_wp2
    obtain ⟨⟨k0, k1, k2, k3, k4, k5⟩, _⟩ := KL.out
    refine bodyPost_ret (v := .agg #[.int .i64 kd, .int .i64 d, .int .i64 u, .int .i64 td, .int .i64 tn, .int .i64 v]) (by simp [results, Tryz.results44, go_sem, k0, k1, k2, k3, k4, k5]) rfl ?_
    exact ⟨_, _, _, _, _, _, _, rfl, by omega, H5.out.dr.fin H.out _ _ _ _ _ _⟩
  have d2 : (s == 2) = false := beq_eq_false_iff_ne.2 e2
  by_cases e3 : s = 3
  · subst e3
    go_wp2_with fail
    refine (l1Pick_any _ b o len cap (a1 + 1) _ _ [10, 3] (H2.out.dr.src.alloc _) (by omega) hl (intsP3 w2 w2.heap.size rfl) H2.out.dr.src.lt (by simp) (by simp)).mono ?_
    rintro e w3 ⟨u, rfl, _, hS, hT⟩
    have H4 : Hid (DrB w b o len cap w1.heap.size kd d n td tn v (a1 + 1 + 1) w3) := (H2.out.alloc _).step hbl hS hT
    clear hS hT H2
    obtain ⟨⟨z0, z1, z2, z3, z4, z5⟩, f0, f1, f2, f3, f4, f5⟩ := H4.out.box
    have H5 : Hid (DrB w b o len cap w1.heap.size kd d n u tn v (a1 + 1 + 1) (w3.setCell ⟨w1.heap.size, 3, none⟩ (.int .i64 u))) := H4.out.put34 H.out u 3 (Or.inl rfl)
    have KL := hidPln (H5.out.dr.res.putAll (.int .i64 kd) (.int .i64 d) (.int .i64 n) (.int .i64 u) (.int .i64 tn) (.int .i64 v))
    obtain ⟨⟨r0, r1, r2, r3, r4, r5⟩, g0, g1, g2, g3, g4, g5⟩ := H4.out.dr.res
    have hgl := H4.out.lt
    clear H4
    go_wp2
    obtain ⟨⟨k0, k1, k2, k3, k4, k5⟩, _⟩ := KL.out
    refine bodyPost_ret (v := .agg #[.int .i64 kd, .int .i64 d, .int .i64 n, .int .i64 u, .int .i64 tn, .int .i64 v]) (by simp [results, Tryz.results44, go_sem, k0, k1, k2, k3, k4, k5]) rfl ?_
    exact ⟨_, _, _, _, _, _, _, rfl, by omega, H5.out.dr.fin H.out _ _ _ _ _ _⟩
  have d3 : (s == 3) = false := beq_eq_false_iff_ne.2 e3
  by_cases e4 : s = 4
  · subst e4
    go_wp2_with fail
    refine (l1Pick_any _ b o len cap (a1 + 1) _ _ [-1, 10000, 5] (H2.out.dr.src.alloc _) (by omega) hl (intsP4 w2 w2.heap.size rfl) H2.out.dr.src.lt (by simp) (by simp)).mono ?_
    rintro e w3 ⟨u, rfl, _, hS, hT⟩
    have H4 : Hid (DrB w b o len cap w1.heap.size kd d n td tn v (a1 + 1 + 1) w3) := (H2.out.alloc _).step hbl hS hT
    clear hS hT H2
    obtain ⟨⟨z0, z1, z2, z3, z4, z5⟩, f0, f1, f2, f3, f4, f5⟩ := H4.out.box
    have H5 : Hid (DrB w b o len cap w1.heap.size kd d n td tn u (a1 + 1 + 1) (w3.setCell ⟨w1.heap.size, 5, none⟩ (.int .i64 u))) := H4.out.put34 H.out u 5 (Or.inr (Or.inr rfl))
    have KL := hidPln (H5.out.dr.res.putAll (.int .i64 kd) (.int .i64 d) (.int .i64 n) (.int .i64 td) (.int .i64 tn) (.int .i64 u))
    obtain ⟨⟨r0, r1, r2, r3, r4, r5⟩, g0, g1, g2, g3, g4, g5⟩ := H4.out.dr.res
    have hgl := H4.out.lt
    clear H4
    go_wp2
    obtain ⟨⟨k0, k1, k2, k3, k4, k5⟩, _⟩ := KL.out
    refine bodyPost_ret (v := .agg #[.int .i64 kd, .int .i64 d, .int .i64 n, .int .i64 td, .int .i64 tn, .int .i64 u]) (by simp [results, Tryz.results44, go_sem, k0, k1, k2, k3, k4, k5]) rfl ?_
    exact ⟨_, _, _, _, _, _, _, rfl, by omega, H5.out.dr.fin H.out _ _ _ _ _ _⟩
  have d4 : (s == 4) = false := beq_eq_false_iff_ne.2 e4
  obtain ⟨⟨z0, z1, z2, z3, z4, z5⟩, f0, f1, f2, f3, f4, f5⟩ := H2.out.box
  have KL := hidPln (H2.out.dr.res.putAll (.int .i64 kd) (.int .i64 d) (.int .i64 n) (.int .i64 td) (.int .i64 tn) (.int .i64 v))
  obtain ⟨⟨r0, r1, r2, r3, r4, r5⟩, g0, g1, g2, g3, g4, g5⟩ := H2.out.dr.res
  have hgl := H2.out.lt
  go_wp2
  obtain ⟨⟨k0, k1, k2, k3, k4, k5⟩, _⟩ := KL.out
  refine bodyPost_ret (v := .agg #[.int .i64 kd, .int .i64 d, .int .i64 n, .int .i64 td, .int .i64 tn, .int .i64 v]) (by simp [results, Tryz.results44, go_sem, k0, k1, k2, k3, k4, k5]) rfl ?_
  exact ⟨_, _, _, _, _, _, _, rfl, by omega, H2.out.dr.fin H.out _ _ _ _ _ _⟩
end Go.Proofs.YtnchaccgenfhoaaGreat

namespace Go.Proofs.YtnchaccgenfhoaaGreat
open Go.RowKit

set_option maxHeartbeats 1000000 in
theorem l1ChanceP_any (w : World) (b : Nat) (o : Option Addr) (len cap : Nat) (a n : Int) (h : Src w b o len cap a) (ha : a ≤ 1000000) (hl : len ≤ 1048576) :
    Calls Tryz.prog 47 #[.pointer (some ⟨b, 0, none⟩), .int .i64 n] w fun e w' => ∃ r : Bool, e = .returned (.bool r) ∧ Src w' b o len cap (a + 1) ∧ But b w w' := by
  have HN : Hid (Calls Tryz.prog 42 #[.pointer (some ⟨b, 0, none⟩), .int .i64 n] w fun e w' => ∃ r : Int, e = .returned (.int .i64 r) ∧ 0 ≤ r ∧ (1 ≤ n → r < n) ∧ Src w' b o len cap (a + 1) ∧ But b w w') := l1Next_any w b o len cap a n h ha hl
  clear h
  go_enter Tryz.func47, Tryz.ntmps47
  go_wp2_with fail
  refine HN.out.mono ?_
  rintro e w1 ⟨r, rfl, _, _, hS, hT⟩
  have HR : Hid (Src w1 b o len cap (a + 1) ∧ But b w w1) := ⟨hS, hT⟩
  clear hS hT
  go_wp2
  go_ret
  exact ⟨_, rfl, HR.out⟩
/-- Block b is one that an operation lies in. -/
def OBk (x : World) (b : Nat) : Prop := ∃ old : Array Value, x.heap[b]? = some (.cells old 26 (0, 0)) ∧ old.size = 6
theorem OBk.lt {x : World} {b : Nat} (h : OBk x b) : b < x.heap.size := by
  obtain ⟨old, h, _⟩ := h
  exact (Array.getElem?_eq_some_iff.1 h).1
theorem OBk.kept {x x' : World} {b : Nat} (h : OBk x b) (hb : x'.heap[b]? = x.heap[b]?) : OBk x' b := by
  obtain ⟨old, h, hs⟩ := h
  exact ⟨old, hb.trans h, hs⟩
theorem OBk.later {x x' : World} {b : Nat} (h : OBk x b) (hb : Below x.heap.size x x') : OBk x' b := h.kept (hb.block b h.lt)
theorem OBk.new (w : World) (a0 a1 a2 a3 a4 a5 : Value) : OBk (w.alloc (.cells #[a0, a1, a2, a3, a4, a5] 26)) w.heap.size := ⟨_, heap_alloc_new w _, rfl⟩
theorem step_storeO {ops : Array Oper} {o : Oper} {a : Act} {w : World} {K : Act → World → Prop} {Q : Exit → Act → World → Prop} {E : Prop} (hgd : o.guard = none) (x y : Operand) (ho : o.op = .store 26 x y)
    (g : Nat) (a0 a1 a2 a3 a4 a5 : Value) (hx : a.eval x = .pointer (some ⟨g, 0, none⟩)) (hy : a.eval y = .agg #[a0, a1, a2, a3, a4, a5]) (hP : OBk w g) (h1 : (#[a0, a1, a2, a3, a4, a5] : Array Value).all (·.oneCell') = true)
    (h : K (a.put o.dst undef) (w.setRow g #[a0, a1, a2, a3, a4, a5])) : if Region.wanted o (yielded ops a.tmps) = true then Oper.wp Tryz.prog o a w K Q else E := by
  have hw : Region.wanted o (yielded ops a.tmps) = true := by simp [Region.wanted, hgd]
  rw [if_pos hw]
  obtain ⟨old, hg, hs⟩ := hP
  exact wp_store_row 26 x y ho g #[a0, a1, a2, a3, a4, a5] hx hy 26 old hg (by kernel_rfl) hs h1 h
theorem OBk.blk {x : World} {b : Nat} (h : OBk x b) (a0 a1 a2 a3 a4 a5 : Value) : Blk6 (x.setRow b #[a0, a1, a2, a3, a4, a5]) b a0 a1 a2 a3 a4 a5 := by
  obtain ⟨old, hg, _⟩ := h
  have e : (x.setRow b #[a0, a1, a2, a3, a4, a5]).heap[b]? = some (.cells #[a0, a1, a2, a3, a4, a5] 26 (0, 0)) := by simp [World.setRow, Array.getElem?_modify, hg]
  refine ⟨⟨?_, ?_, ?_, ?_, ?_, ?_⟩, ?_, ?_, ?_, ?_, ?_, ?_⟩ <;> simp [World.cell?, World.frozen?, e]
theorem Row.rowO {w : World} {B m n g : Nat} {F : Nat → Int} {v : Value} (h : Row w B m n F v) (hg : g < B) (cs : Array Value) : Row (w.setRow g cs) B m n F v := by
  rcases Nat.eq_zero_or_pos n with e | e
  · subst e
    obtain ⟨ao, cp, hv, _⟩ := h
    exact ⟨ao, cp, hv, fun q => absurd q (Nat.lt_irrefl 0)⟩
  · exact h.kept (by rw [size_setRow]; exact Nat.le_refl _) (fun k hk _ => heap_setRow _ _ _ _ (by have := (h.lt e k hk).1; omega))
theorem Row.farG {w : World} {B m n g j : Nat} {F : Nat → Int} {v : Value} (h : Row w B m n F v) (hg : 0 < n → ∀ k, v.ownBlock = some k → k ≠ g) (u : Value) : Row (w.setCell ⟨g, j, none⟩ u) B m n F v := by
  rcases Nat.eq_zero_or_pos n with e | e
  · subst e
    obtain ⟨ao, cp, hv, _⟩ := h
    exact ⟨ao, cp, hv, fun q => absurd q (Nat.lt_irrefl 0)⟩
  · exact h.kept (by simp [World.setCell]) (fun k hk _ => Below.heap_setCell w ⟨g, j, none⟩ u k (hg e k hk))
set_option maxRecDepth 100000 in
set_option maxHeartbeats 4000000 in
theorem drawCompile_any (w : World) (o : Option Addr) (len cap : Nat) (h : Code (w.alloc zeroO) o len) (hl : len ≤ 1048576) :
    Calls Tryz.prog 21 #[.slice o len cap] w fun e w' => ∃ (m : Nat) (V : Nat → Int) (ao : Option Addr) (cp : Nat) (kd d n td tn v : Int), e = .returned (.tuple #[.slice ao m cp, .agg #[.int .i64 kd, .int .i64 d, .int .i64 n, .int .i64 td, .int .i64 tn, .int .i64 v]]) ∧ m ≤ 401 ∧ Row w' w.heap.size 2 m V (.slice ao m cp) ∧ Below w.heap.size w w' := by
  have H : Hid (Code (w.alloc zeroO) o len) := h
  clear h
  go_enter Tryz.func21, Tryz.ntmps21
  go_wp2_with fail
  refine (l1Source_any (w.alloc zeroO) o len cap H.out).mono ?_
  rw [World.size_alloc]
  rintro e w1 ⟨rfl, hS, hb, hz⟩
  have H1 : Hid (Src w1 (w.heap.size + 1) o len cap 0 ∧ Below w.heap.size w w1 ∧ OBk w1 w.heap.size) := ⟨hS, (below_alloc w zeroO).trans (hb.mono (by omega)), (OBk.new w _ _ _ _ _ _).later (by rw [World.size_alloc]; exact hb)⟩
  have hbl : w.heap.size + 1 < w1.heap.size := by omega
  clear hS hb
  go_wp2_with fail
  refine (l13BentView_any _ (w.heap.size + 1) o len cap 0 H1.out.1 (by omega) hl).mono ?_
  rintro e w2 ⟨m, ao, cp, a1, rfl, hm, ha1, ⟨V, hV⟩, hS, hT⟩
  have bt : ∀ {x y : World}, But (w.heap.size + 1) x y → Below w.heap.size w x → Below w.heap.size w y := fun {x y} hT hB => ⟨hT.os.trans hB.os, hT.tape.trans hB.tape, hT.output.trans hB.output, Nat.le_trans hB.size hT.size, fun i hi => (hT.block i (Nat.lt_of_lt_of_le hi hB.size) (fun e => by have := Option.some.inj e; omega)).trans (hB.block i hi)⟩
  have H2 : Hid (Src w2 (w.heap.size + 1) o len cap a1 ∧ Below w.heap.size w w2 ∧ OBk w2 w.heap.size ∧ Row w2 (w.heap.size + 2) 2 m V (.slice ao m cp)) := ⟨hS, bt hT H1.out.2.1, H1.out.2.2.kept (hT.block _ H1.out.2.2.lt (fun e => by have := Option.some.inj e; omega)), hV.mono (by omega)⟩
  have hbk : 0 < m → ∀ k, (Value.slice ao m cp).ownBlock = some k → w.heap.size + 2 ≤ k := fun h0 k hk => (H2.out.2.2.2.lt h0 k hk).1
  have hbl2 : 0 < m → ∀ k, (Value.slice ao m cp).ownBlock = some k → k < w2.heap.size := fun h0 k hk => (H2.out.2.2.2.lt h0 k hk).2
  have hz2 : w.heap.size + 1 < w2.heap.size := H2.out.1.lt
  clear hS hT hV H1
  go_wp2_with fail
  refine (l13Draw_any _ (w.heap.size + 1) o len cap a1 H2.out.1 (by omega) hl).mono ?_
  rintro e w4 ⟨kd, d, n, td, tn, v, a2, rfl, _, ha2, hS, hT⟩
  have hb4 : w.heap.size + 1 < w4.heap.size := Nat.lt_of_lt_of_le H2.out.1.lt hT.size
  have hbl4 : 0 < m → ∀ k, (Value.slice ao m cp).ownBlock = some k → k < w4.heap.size := fun h0 k hk => Nat.lt_of_lt_of_le (hbl2 h0 k hk) hT.size
  have H4 : Hid (Src (w4.alloc (.cells #[.int .i64 kd, .int .i64 d, .int .i64 n, .int .i64 td, .int .i64 tn, .int .i64 v] 26)) (w.heap.size + 1) o len cap a2 ∧ Below w.heap.size w (w4.alloc (.cells #[.int .i64 kd, .int .i64 d, .int .i64 n, .int .i64 td, .int .i64 tn, .int .i64 v] 26)) ∧ OBk (w4.alloc (.cells #[.int .i64 kd, .int .i64 d, .int .i64 n, .int .i64 td, .int .i64 tn, .int .i64 v] 26)) w.heap.size ∧ Row (w4.alloc (.cells #[.int .i64 kd, .int .i64 d, .int .i64 n, .int .i64 td, .int .i64 tn, .int .i64 v] 26)) (w.heap.size + 2) 2 m V (.slice ao m cp) ∧ Blk6 (w4.alloc (.cells #[.int .i64 kd, .int .i64 d, .int .i64 n, .int .i64 td, .int .i64 tn, .int .i64 v] 26)) w4.heap.size (.int .i64 kd) (.int .i64 d) (.int .i64 n) (.int .i64 td) (.int .i64 tn) (.int .i64 v)) :=
    ⟨hS.alloc _, (bt hT H2.out.2.1).alloc (Nat.le_trans H2.out.2.1.size hT.size) _, (H2.out.2.2.1.kept (hT.block _ H2.out.2.2.1.lt (fun e => by have := Option.some.inj e; omega))).later (below_alloc _ _), (H2.out.2.2.2.turnedC hT (by omega)).alloc _, Blk6.new w4 _ _ _ _ _ _ _⟩
  clear hS hT H2
  go_wp2_with fail
  generalize w4.alloc (.cells #[.int .i64 kd, .int .i64 d, .int .i64 n, .int .i64 td, .int .i64 tn, .int .i64 v] 26) = w5 at H4 ⊢
  refine (l1ChanceP_any _ (w.heap.size + 1) o len cap a2 10 H4.out.1 (by omega) hl).mono ?_
  rintro e w6 ⟨r, rfl, hS, hT⟩
  have H6 : Hid (Src w6 (w.heap.size + 1) o len cap (a2 + 1) ∧ Below w.heap.size w w6 ∧ OBk w6 w.heap.size ∧ Row w6 (w.heap.size + 2) 2 m V (.slice ao m cp) ∧ Blk6 w6 w4.heap.size (.int .i64 kd) (.int .i64 d) (.int .i64 n) (.int .i64 td) (.int .i64 tn) (.int .i64 v)) :=
    ⟨hS, bt hT H4.out.2.1, H4.out.2.2.1.kept (hT.block _ H4.out.2.2.1.lt (fun e => by have := Option.some.inj e; omega)), H4.out.2.2.2.1.turnedC hT (by omega), H4.out.2.2.2.2.kept (hT.block _ H4.out.2.2.2.2.lt (fun e => by have := Option.some.inj e; omega))⟩
  clear hS hT H4
  cases r with
  | false =>
    have HE : Hid (Blk6 w6 w4.heap.size (.int .i64 kd) (.int .i64 d) (.int .i64 n) (.int .i64 td) (.int .i64 tn) (.int .i64 v) ∧ OBk w6 w.heap.size ∧ w.heap.size < w4.heap.size ∧ Row w6 (w.heap.size + 2) 2 m V (.slice ao m cp) ∧ Below w.heap.size w w6) := ⟨H6.out.2.2.2.2, H6.out.2.2.1, by omega, H6.out.2.2.2.1, H6.out.2.1⟩
    clear H6
    go_upto_region 6 with fail
    refine wp_region_held_drew (S := fun Z : World => Blk6 Z w4.heap.size (.int .i64 kd) (.int .i64 d) (.int .i64 n) (.int .i64 td) (.int .i64 tn) (.int .i64 v)) (by kernel_rfl) (HE.out.1.later (Below.refl _ _).drew) (fun hS => ?_)
    have HF : Hid (OBk w6.drew w.heap.size ∧ w.heap.size < w4.heap.size ∧ Row w6.drew (w.heap.size + 2) 2 m V (.slice ao m cp) ∧ Below w.heap.size w w6.drew) := ⟨HE.out.2.1.later (Below.refl _ _).drew, HE.out.2.2.1, HE.out.2.2.2.1.later (Below.refl _ _).drew, HE.out.2.2.2.2.drew⟩
    clear HE
    generalize w6.drew = z0 at hS HF ⊢
    refine tkH 0 ?_ hS (fun wx hx => ?_) ?_; rotate_left
    · obtain ⟨⟨hx0, hx1, hx2, hx3, hx4, hx5⟩, _⟩ := hx; go_simp; try with_reducible rfl
    refine tkH 1 ?_ hS (fun wx hx => ?_) ?_; rotate_left
    · obtain ⟨⟨hx0, hx1, hx2, hx3, hx4, hx5⟩, _⟩ := hx; go_simp; try with_reducible rfl
    refine tkH 2 ?_ hS (fun wx hx => ?_) ?_; rotate_left
    · obtain ⟨⟨hx0, hx1, hx2, hx3, hx4, hx5⟩, _⟩ := hx; go_simp; try with_reducible rfl
    refine rdH 3 (fun K hK => ?_)
    refine step_storeO rfl _ _ rfl w.heap.size _ _ _ _ _ _ rfl rfl HF.out.1 (by kernel_rfl) ?_
    have KB : Hid (Blk6 (z0.setRow w.heap.size #[.int .i64 kd, .int .i64 d, .int .i64 n, .int .i64 td, .int .i64 tn, .int .i64 v]) w.heap.size (.int .i64 kd) (.int .i64 d) (.int .i64 n) (.int .i64 td) (.int .i64 tn) (.int .i64 v)) := HF.out.1.blk _ _ _ _ _ _
    have HG : Hid (Row (z0.setRow w.heap.size #[.int .i64 kd, .int .i64 d, .int .i64 n, .int .i64 td, .int .i64 tn, .int .i64 v]) (w.heap.size + 2) 2 m V (.slice ao m cp) ∧ Below w.heap.size w (z0.setRow w.heap.size #[.int .i64 kd, .int .i64 d, .int .i64 n, .int .i64 td, .int .i64 tn, .int .i64 v])) := ⟨HF.out.2.2.1.rowO (by omega) _, below_row HF.out.2.2.2 (Nat.le_refl _) _⟩
    have hS' : Blk6 (z0.setRow w.heap.size #[.int .i64 kd, .int .i64 d, .int .i64 n, .int .i64 td, .int .i64 tn, .int .i64 v]) w4.heap.size (.int .i64 kd) (.int .i64 d) (.int .i64 n) (.int .i64 td) (.int .i64 tn) (.int .i64 v) := hS.kept (heap_setRow _ _ _ _ (by have := HF.out.2.1; omega))
    clear hS HF
    refine hK.out _ _ hS' (fun hS => ?_)
    clear hK K hS' hS
    refine wpAnyH_done (by kernel_rfl) ?_ _
    go_simp
    obtain ⟨⟨k0, k1, k2, k3, k4, k5⟩, _⟩ := KB.out
    go_wp2
    refine bodyPost_ret (v := .tuple #[.slice ao m cp, .agg #[.int .i64 kd, .int .i64 d, .int .i64 n, .int .i64 td, .int .i64 tn, .int .i64 v]]) (by simp [results, Tryz.results21, go_sem, k0, k1, k2, k3, k4, k5]) rfl ?_
    exact ⟨m, V, ao, cp, _, _, _, _, _, _, rfl, hm, HG.out.1.mono (by omega), HG.out.2⟩
  | true =>
    go_wp2_with fail
    refine (l13Bent_any _ (w.heap.size + 1) o len cap (a2 + 1) H6.out.1 (by omega) hl).mono ?_
    rintro e w7 ⟨kd', d', n', td', tn', v', a3, rfl, _, hS, hT⟩
    have H7 : Hid ((Below w.heap.size w w7 ∧ OBk w7 w.heap.size ∧ Row w7 (w.heap.size + 2) 2 m V (.slice ao m cp)) ∧ Blk6 w7 w4.heap.size (.int .i64 kd) (.int .i64 d) (.int .i64 n) (.int .i64 td) (.int .i64 tn) (.int .i64 v)) :=
      ⟨⟨bt hT H6.out.2.1, H6.out.2.2.1.kept (hT.block _ H6.out.2.2.1.lt (fun e => by have := Option.some.inj e; omega)), H6.out.2.2.2.1.turnedC hT (by omega)⟩, H6.out.2.2.2.2.kept (hT.block _ H6.out.2.2.2.2.lt (fun e => by have := Option.some.inj e; omega))⟩
    clear hS hT H6
    obtain ⟨w8, HY⟩ : ∃ y, Hid (y = ((((((w7.setCell ⟨w4.heap.size, 0, none⟩ (.int .i64 kd')).setCell ⟨w4.heap.size, 1, none⟩ (.int .i64 d')).setCell ⟨w4.heap.size, 2, none⟩ (.int .i64 n')).setCell ⟨w4.heap.size, 3, none⟩ (.int .i64 td')).setCell ⟨w4.heap.size, 4, none⟩ (.int .i64 tn')).setCell ⟨w4.heap.size, 5, none⟩ (.int .i64 v'))) := ⟨_, rfl⟩
    have HE : Hid (Blk6 w8 w4.heap.size (.int .i64 kd') (.int .i64 d') (.int .i64 n') (.int .i64 td') (.int .i64 tn') (.int .i64 v') ∧ OBk w8 w.heap.size ∧ w.heap.size < w4.heap.size ∧ Row w8 (w.heap.size + 2) 2 m V (.slice ao m cp) ∧ Below w.heap.size w w8) := by
      rw [HY.out]
      obtain ⟨⟨k1, k2, k3⟩, k4⟩ := H7.out
      have so : ∀ {y : World} (j : Nat) (u : Value), OBk y w.heap.size → OBk (y.setCell ⟨w4.heap.size, j, none⟩ u) w.heap.size := fun {y} j u q => q.kept (Below.heap_setCell y ⟨w4.heap.size, j, none⟩ u _ (by simp; omega))
      have sb : ∀ {y : World} (j : Nat) (u : Value), Below w.heap.size w y → Below w.heap.size w (y.setCell ⟨w4.heap.size, j, none⟩ u) := fun {y} j u q => q.setCell (by show w.heap.size ≤ w4.heap.size; omega) u
      have sr : ∀ {y : World} (j : Nat) (u : Value), Row y (w.heap.size + 2) 2 m V (.slice ao m cp) → Row (y.setCell ⟨w4.heap.size, j, none⟩ u) (w.heap.size + 2) 2 m V (.slice ao m cp) := fun {y} j u q => q.farG (fun h0 k hk => by have := hbl4 h0 k hk; omega) u
      exact ⟨k4.putAll _ _ _ _ _ _, so _ _ (so _ _ (so _ _ (so _ _ (so _ _ (so _ _ k2))))), by omega, sr _ _ (sr _ _ (sr _ _ (sr _ _ (sr _ _ (sr _ _ k3))))), sb _ _ (sb _ _ (sb _ _ (sb _ _ (sb _ _ (sb _ _ k1)))))⟩
    obtain ⟨⟨z0, z1, z2, z3, z4, z5⟩, f0, f1, f2, f3, f4, f5⟩ := H7.out.2
    go_upto_region 6 with fail
    rw [← HY.out]
    clear z0 z1 z2 z3 z4 z5 f0 f1 f2 f3 f4 f5 H7 HY
    refine wp_region_held_drew (S := fun Z : World => Blk6 Z w4.heap.size (.int .i64 kd') (.int .i64 d') (.int .i64 n') (.int .i64 td') (.int .i64 tn') (.int .i64 v')) (by kernel_rfl) (HE.out.1.later (Below.refl _ _).drew) (fun hS => ?_)
    have HF : Hid (OBk w8.drew w.heap.size ∧ w.heap.size < w4.heap.size ∧ Row w8.drew (w.heap.size + 2) 2 m V (.slice ao m cp) ∧ Below w.heap.size w w8.drew) := ⟨HE.out.2.1.later (Below.refl _ _).drew, HE.out.2.2.1, HE.out.2.2.2.1.later (Below.refl _ _).drew, HE.out.2.2.2.2.drew⟩
    clear HE
    generalize w8.drew = z0 at hS HF ⊢
    refine tkH 0 ?_ hS (fun wx hx => ?_) ?_; rotate_left
    · obtain ⟨⟨hx0, hx1, hx2, hx3, hx4, hx5⟩, _⟩ := hx; go_simp; try with_reducible rfl
    refine tkH 1 ?_ hS (fun wx hx => ?_) ?_; rotate_left
    · obtain ⟨⟨hx0, hx1, hx2, hx3, hx4, hx5⟩, _⟩ := hx; go_simp; try with_reducible rfl
    refine tkH 2 ?_ hS (fun wx hx => ?_) ?_; rotate_left
    · obtain ⟨⟨hx0, hx1, hx2, hx3, hx4, hx5⟩, _⟩ := hx; go_simp; try with_reducible rfl
    refine rdH 3 (fun K hK => ?_)
    refine step_storeO rfl _ _ rfl w.heap.size _ _ _ _ _ _ rfl rfl HF.out.1 (by kernel_rfl) ?_
    have KB : Hid (Blk6 (z0.setRow w.heap.size #[.int .i64 kd', .int .i64 d', .int .i64 n', .int .i64 td', .int .i64 tn', .int .i64 v']) w.heap.size (.int .i64 kd') (.int .i64 d') (.int .i64 n') (.int .i64 td') (.int .i64 tn') (.int .i64 v')) := HF.out.1.blk _ _ _ _ _ _
    have HG : Hid (Row (z0.setRow w.heap.size #[.int .i64 kd', .int .i64 d', .int .i64 n', .int .i64 td', .int .i64 tn', .int .i64 v']) (w.heap.size + 2) 2 m V (.slice ao m cp) ∧ Below w.heap.size w (z0.setRow w.heap.size #[.int .i64 kd', .int .i64 d', .int .i64 n', .int .i64 td', .int .i64 tn', .int .i64 v'])) := ⟨HF.out.2.2.1.rowO (by omega) _, below_row HF.out.2.2.2 (Nat.le_refl _) _⟩
    have hS' : Blk6 (z0.setRow w.heap.size #[.int .i64 kd', .int .i64 d', .int .i64 n', .int .i64 td', .int .i64 tn', .int .i64 v']) w4.heap.size (.int .i64 kd') (.int .i64 d') (.int .i64 n') (.int .i64 td') (.int .i64 tn') (.int .i64 v') := hS.kept (heap_setRow _ _ _ _ (by have := HF.out.2.1; omega))
    clear hS HF
    refine hK.out _ _ hS' (fun hS => ?_)
    clear hK K hS' hS
    refine wpAnyH_done (by kernel_rfl) ?_ _
    go_simp
    obtain ⟨⟨k0, k1, k2, k3, k4, k5⟩, _⟩ := KB.out
    go_wp2
    refine bodyPost_ret (v := .tuple #[.slice ao m cp, .agg #[.int .i64 kd', .int .i64 d', .int .i64 n', .int .i64 td', .int .i64 tn', .int .i64 v']]) (by simp [results, Tryz.results21, go_sem, k0, k1, k2, k3, k4, k5]) rfl ?_
    exact ⟨m, V, ao, cp, _, _, _, _, _, _, rfl, hm, HG.out.1.mono (by omega), HG.out.2⟩
end Go.Proofs.YtnchaccgenfhoaaGreat

namespace Go.Proofs.YtnchaccgenfhoaaGreat
open Go.RowKit

theorem hidA {p : Prop} (h : p) : Hid p := h
/-- What the law stands on: the view, the operation's box, what the program's ApplyFs answered. -/
structure EnvA (w : World) (b4 b5 : Nat) (c r v kd d n td tn vv : Int) (m : Nat) (V : Nat → Int) (view : Value) (R : Prs) (pv : Value) (x : World) : Prop where
  below : Below w.heap.size w x
  view : Row x 0 2 m V view
  op : Blk6 x b4 (.int .i64 kd) (.int .i64 d) (.int .i64 n) (.int .i64 td) (.int .i64 tn) (.int .i64 vv)
  got : BlkF x b5 (.int .i64 c) (.int .i64 r) (.int .i64 v) pv
  row : Row x 0 2 R.length (rowL R) pv
theorem EnvA.later {w : World} {b4 b5 : Nat} {c r v kd d n td tn vv : Int} {m : Nat} {V : Nat → Int} {view : Value} {R : Prs} {pv : Value} {x x' : World} (h : EnvA w b4 b5 c r v kd d n td tn vv m V view R pv x) (hb : Below x.heap.size x x') : EnvA w b4 b5 c r v kd d n td tn vv m V view R pv x' :=
  ⟨h.below.trans (hb.mono h.below.size), h.view.later hb, h.op.later hb, h.got.later hb, h.row.later hb⟩
theorem fs_of_whole {R : Prs} (hg : GoodP R) (h : wholeB R = true) : fsF R.length (rowL R) = 0 := fsF_ok (pairs_of_good hg) (by rw [listOf_rowL]; exact h)
theorem ch_of {R : Prs} (hg : GoodP R) {d n z : Int} {has : Bool} (hd : 0 ≤ d ∧ d ≤ 9) (hn : 0 ≤ n ∧ n ≤ 5) (h : lookF R (kE d n) = (has, z)) : ChAns R.length (rowL R) d n 0 z has := Or.inr (Or.inr ⟨pairs_of_good hg, ⟨hd, hn⟩, rfl, by rw [listOf_rowL]; exact h⟩)
set_option maxHeartbeats 1000000 in
theorem drawApplyFs_any (w : World) (o : Option Addr) (len cap : Nat) (h : Code w o len) (hl : len ≤ 1048576) :
    Calls Tryz.prog 7 #[.slice o len cap] w fun e w' => ∃ (m : Nat) (V : Nat → Int) (ao : Option Addr) (cp : Nat) (kd d n td tn v : Int), e = .returned (.tuple #[.slice ao m cp, .agg #[.int .i64 kd, .int .i64 d, .int .i64 n, .int .i64 td, .int .i64 tn, .int .i64 v]]) ∧ m ≤ 401 ∧ Row w' w.heap.size 2 m V (.slice ao m cp) ∧ Below w.heap.size w w' := by
  have H := hidA h
  clear h
  go_enter Tryz.func7, Tryz.ntmps7
  go_wp2_with fail
  refine (drawCompile_any (w.alloc zeroO) o len cap ((H.out.later (below_alloc _ _)).later (below_alloc _ _)) hl).mono ?_
  rintro e w1 ⟨m, V, ao, cp, kd, d, n, td, tn, vv, rfl, hm, hV, q1⟩
  rw [World.size_alloc] at hV q1
  have hf : 0 < m → ∀ k, (Value.slice ao m cp).ownBlock = some k → k ≠ w.heap.size := fun h0 k hk => by have := (hV.lt h0 k hk).1; omega
  have hb : Below w.heap.size w w1 := (below_alloc w zeroO).trans (q1.mono (by omega))
  obtain ⟨⟨z0, z1, z2, z3, z4, z5⟩, f0, f1, f2, f3, f4, f5⟩ := (Blk6.new w (.int .i64 0) (.int .i64 0) (.int .i64 0) (.int .i64 0) (.int .i64 0) (.int .i64 0) 26).later (by rw [World.size_alloc]; exact q1)
  have HX := hidA (And.intro (hV.mono (B' := w.heap.size) (by omega)) (And.intro hb hf))
  clear hV q1 hb hf
  go_wp2
  refine bodyPost_ret (v := .tuple #[.slice ao m cp, .agg #[.int .i64 kd, .int .i64 d, .int .i64 n, .int .i64 td, .int .i64 tn, .int .i64 vv]]) (by simp [results, Tryz.results7, go_sem, z0, z1, z2, z3, z4, z5]) rfl ?_
  obtain ⟨k1, k2, k3⟩ := HX.out
  exact ⟨m, V, ao, cp, kd, d, n, td, tn, vv, rfl, hm, (((((k1.farG k3 _).farG k3 _).farG k3 _).farG k3 _).farG k3 _).farG k3 _, (((((k2.setCell (Nat.le_refl _) _).setCell (Nat.le_refl _) _).setCell (Nat.le_refl _) _).setCell (Nat.le_refl _) _).setCell (Nat.le_refl _) _).setCell (Nat.le_refl _) _⟩
end Go.Proofs.YtnchaccgenfhoaaGreat

namespace Go.Proofs.YtnchaccgenfhoaaGreat
open Go.RowKit

set_option maxHeartbeats 400000 in
theorem lwAt_none (w : World) (o : Option Addr) (cap : Nat) (i n : Int) (hi : 0 ≤ i ∧ i ≤ 1000) (hn : 2 ≤ n ∧ n ≤ 200) :
    Calls Tryz.prog 16 #[.slice o 0 cap, .int .i64 i, .int .i64 n] w fun e w' => e = .returned (.int .i64 ((i * 7) % n)) ∧ w' = w := by
  obtain ⟨h1, h2⟩ := hi
  obtain ⟨h3, h4⟩ := hn
  go_enter Tryz.func16, Tryz.ntmps16
  go_wp2
  go_ret
  exact ⟨rfl, rfl⟩
set_option maxHeartbeats 800000 in
theorem lwAt_some (w : World) (g off : Nat) (len cap : Nat) (i n x : Int) (hi : 0 ≤ i ∧ i ≤ 1000) (hn : 2 ≤ n ∧ n ≤ 200) (hl : 0 < len) (hl2 : len ≤ 1048576)
    (hc : w.cell? ⟨g, off + (i % len).toNat, none⟩ = some (.int .u8 x)) (x0 : 0 ≤ x) (x1 : x < 256) :
    Calls Tryz.prog 16 #[.slice (some ⟨g, off, none⟩) len cap, .int .i64 i, .int .i64 n] w fun e w' => e = .returned (.int .i64 ((x + i / len * 3) % n)) ∧ ∃ m, w' = w.drewN m := by
  obtain ⟨h3, h4⟩ := hi
  obtain ⟨h5, h6⟩ := hn
  have q0 : 0 ≤ i / len := Int.ediv_nonneg h3 (by omega)
  have q1 : i / len ≤ i := Int.ediv_le_self _ h3
  have r0 : 0 ≤ i % len := Int.emod_nonneg _ (by omega)
  have r1 : i % len < len := Int.emod_lt_of_pos _ (by omega)
  have hl0 : ((len : Int) == 0) = false := beq_eq_false_iff_ne.2 (by omega)
  go_enter Tryz.func16, Tryz.ntmps16
  go_wp2
  go_quiet (fail)
  go_wp2
  go_ret
  exact ⟨rfl, _, rfl⟩
theorem lwAt_any (w : World) (o : Option Addr) (len cap : Nat) (i n : Int) (h : Code w o len) (hl : len ≤ 1048576) (hi : 0 ≤ i ∧ i ≤ 1000) (hn : 2 ≤ n ∧ n ≤ 200) :
    Calls Tryz.prog 16 #[.slice o len cap, .int .i64 i, .int .i64 n] w fun e w' => ∃ r : Int, e = .returned (.int .i64 r) ∧ (0 ≤ r ∧ r < n) ∧ ∃ m, w' = w.drewN m := by
  by_cases h0 : len = 0
  · subst h0
    exact (lwAt_none w o cap i n hi hn).mono fun e w' ⟨he, hw⟩ => ⟨_, he, ⟨Int.emod_nonneg _ (by omega), Int.emod_lt_of_pos _ (by omega)⟩, 0, hw⟩
  · have r0 : 0 ≤ i % len := Int.emod_nonneg _ (by omega)
    have r1 : i % len < len := Int.emod_lt_of_pos _ (by omega)
    obtain ⟨g, off, x, rfl, hc, x0, x1⟩ := h (i % len).toNat (by omega)
    exact (lwAt_some w g off len cap i n x hi hn (by omega) hl hc x0 x1).mono fun e w' ⟨he, hw⟩ => ⟨_, he, ⟨Int.emod_nonneg _ (by omega), Int.emod_lt_of_pos _ (by omega)⟩, hw⟩
end Go.Proofs.YtnchaccgenfhoaaGreat

namespace Go.Proofs.YtnchaccgenfhoaaGreat
open Go.RowKit

theorem wrapM_i64 (n : Int) (h0 : 0 ≤ n) (h1 : n ≤ 9223372036854775807) : IntKind.i64.wrap n = n := by
  unfold IntKind.wrap
  simp only [IntKind.bits, IntKind.signed]
  simp [Int.emod_eq_of_lt (show 0 ≤ n by omega) (show n < 18446744073709551616 by omega)]
  omega
theorem linkN_len (L : Prs) (a : Int) : linkN L a ≤ L.length := by
  rw [linkN_filter]
  exact List.length_filter_le _ _
/-- What stands while the operation is bent: its box, the code, the view. -/
structure EnvM (w : World) (b : Nat) (o : Option Addr) (len : Nat) (m : Nat) (V : Nat → Int) (view : Value) (x : World) : Prop where
  below : Below w.heap.size w x
  row : Row x 0 2 m V view
  code : Code x o len
  box : OBk x b
  new : w.heap.size ≤ b
  far : 0 < m → ∀ k, view.ownBlock = some k → k ≠ b
theorem Row.rowF {w : World} {B m n g : Nat} {F : Nat → Int} {v : Value} (h : Row w B m n F v) (hg : 0 < n → ∀ k, v.ownBlock = some k → k ≠ g) (cs : Array Value) : Row (w.setRow g cs) B m n F v := by
  rcases Nat.eq_zero_or_pos n with e | e
  · subst e
    obtain ⟨ao, cp, hv, _⟩ := h
    exact ⟨ao, cp, hv, fun q => absurd q (Nat.lt_irrefl 0)⟩
  · exact h.kept (by rw [size_setRow]; exact Nat.le_refl _) (fun k hk _ => heap_setRow _ _ _ _ (hg e k hk))
theorem EnvM.later {w : World} {b : Nat} {o : Option Addr} {len m : Nat} {V : Nat → Int} {view : Value} {x x' : World} (h : EnvM w b o len m V view x) (hb : Below x.heap.size x x') : EnvM w b o len m V view x' :=
  ⟨h.below.trans (hb.mono h.below.size), h.row.later hb, h.code.later hb, h.box.later hb, h.new, h.far⟩
/-- Six cells, of which two are told. -/
def Mid6 (x : World) (b : Nat) (d n : Int) : Prop := ∃ k0 k3 k4 k5 : Value, Blk6 x b k0 (.int .i64 d) (.int .i64 n) k3 k4 k5
theorem Mid6.later {x x' : World} {b : Nat} {d n : Int} (h : Mid6 x b d n) (hb : Below x.heap.size x x') : Mid6 x' b d n := by
  obtain ⟨k0, k3, k4, k5, h⟩ := h
  exact ⟨k0, k3, k4, k5, h.later hb⟩
set_option maxRecDepth 100000 in
set_option maxHeartbeats 16000000 in
theorem fnMoves_walk (o : Option Addr) (len cap : Nat) (w : World) (hc : Code w o len) (hl0 : len ≤ maxLen) :
    Calls Tryz.prog 4 #[.slice o len cap] w fun e w' => e = .returned (.bool true) ∧ Below w.heap.size w w' := by
  have HC0 : Hid (Code w o len) := hc
  have hml : maxLen = 9223372036854775807 := rfl
  by_cases hbig : (1048576 : Int) < len
  · have d : decide ((1048576 : Int) < (len : Int)) = true := decide_eq_true hbig
    go_enter Tryz.func4, Tryz.ntmps4
    go_wp2_with fail
    refine (lwBigP_is _ _ _ _ _ d).mono ?_
    rintro e w9 ⟨rfl, hw9⟩
    obtain rfl := hw9.symm
    go_wp2
    go_ret
    exact ⟨rfl, Below.refl _ _⟩
  have dz : decide ((1048576 : Int) < (len : Int)) = false := decide_eq_false hbig
  have HD := drawApplyFs_any w o len cap hc (by omega)
  have HLE : Hid (len ≤ 1048576) := by unfold Hid; omega
  clear hc hbig hml hl0
  go_enter Tryz.func4, Tryz.ntmps4
  go_wp2_with fail
  refine (lwBigP_is _ _ _ _ _ dz).mono ?_
  rintro e w9 ⟨rfl, hw9⟩
  obtain rfl := hw9.symm
  go_wp2_with fail
  refine HD.mono ?_
  clear HD
  rintro e w1 ⟨m, V, ao, cp, kd, d, n, td, tn, vv, rfl, hm, hV, q1⟩
  have hl : len ≤ 1048576 := HLE.out
  have OP := hidA (EnvM.mk (w := w) (b := w1.heap.size) (o := o) (len := len) (m := m) (V := V) (view := .slice ao m cp) (x := w1.alloc (.cells #[.int .i64 kd, .int .i64 d, .int .i64 n, .int .i64 td, .int .i64 tn, .int .i64 vv] 26)) (q1.alloc q1.size (.cells #[.int .i64 kd, .int .i64 d, .int .i64 n, .int .i64 td, .int .i64 tn, .int .i64 vv] 26)) ((hV.mono (Nat.zero_le _)).alloc (.cells #[.int .i64 kd, .int .i64 d, .int .i64 n, .int .i64 td, .int .i64 tn, .int .i64 vv] 26)) (HC0.out.later (q1.alloc q1.size (.cells #[.int .i64 kd, .int .i64 d, .int .i64 n, .int .i64 td, .int .i64 tn, .int .i64 vv] 26))) (OBk.new w1 (.int .i64 kd) (.int .i64 d) (.int .i64 n) (.int .i64 td) (.int .i64 tn) (.int .i64 vv)) q1.size (fun h0 k hk => by have := (hV.lt h0 k hk).2; omega))
  have OB := hidA (Blk6.new w1 (.int .i64 kd) (.int .i64 d) (.int .i64 n) (.int .i64 td) (.int .i64 tn) (.int .i64 vv) 26)
  clear hV q1 dz HC0 HLE
  obtain ⟨⟨o0, o1, o2, o3, o4, o5⟩, _⟩ := OB.out
  go_upto_region 4 with fail
  clear o0 o1 o2 o3 o4 o5
  generalize w1.alloc (.cells #[.int .i64 kd, .int .i64 d, .int .i64 n, .int .i64 td, .int .i64 tn, .int .i64 vv] 26) = w2 at OP OB ⊢
  by_cases h4 : kd = 4
  · subst h4
    have HX := hidA (And.intro OB.out (And.intro OP.out.row OP.out.below))
    clear OB OP
    obtain ⟨c, r, vl, R, hans, hR⟩ := ApAns.get m V 4 d n td tn vv
    have HR : Hid (R.length ≤ 200) := hR
    have HSP : Hid (∀ u X, Row X 0 2 m V u → Calls Tryz.prog 9 #[u, .agg #[.int .i64 4, .int .i64 d, .int .i64 n, .int .i64 td, .int .i64 tn, .int .i64 vv]] X (ResFs X c r vl R)) := fun u X hu => specApplyFs_is u 0 m V 4 d n td tn vv c r vl R X hu (by omega) hans
    have HIM : Hid (∀ u X, Row X 0 2 m V u → Calls Tryz.prog 8 #[u, .agg #[.int .i64 4, .int .i64 d, .int .i64 n, .int .i64 td, .int .i64 tn, .int .i64 vv]] X (ResFs X c r vl R)) := fun u X hu => implApplyFs_is u 0 m V 4 d n td tn vv c r vl R X hu (by omega) hans
    have HA : Hid (ApAns m V 4 d n td tn vv c r vl R) := hans
    clear hans hR
    obtain ⟨⟨o0, o1, o2, o3, o4, o5⟩, _⟩ := HX.out.1
    go_wp2_with fail
    refine (HIM.out _ _ HX.out.2.1).mono ?_
    rintro e w3 ⟨pa, pb, rfl, hrow, _, q3⟩
    have E3 : Hid (EnvA w w1.heap.size w3.heap.size c r vl 4 d n td tn vv m V (.slice ao m cp) R (.slice pa R.length pb) (w3.alloc (.cells #[.int .i64 c, .int .i64 r, .int .i64 vl, .slice pa R.length pb] 30))) :=
      ⟨(HX.out.2.2.trans (q3.mono HX.out.2.2.size)).alloc (Nat.le_trans HX.out.2.2.size q3.size) _, (HX.out.2.1.later q3).alloc _, (HX.out.1.later q3).alloc _, BlkF.new w3 _ _ _ _ _, (hrow.mono (Nat.zero_le _)).alloc _⟩
    clear hrow q3 HX HIM o0 o1 o2 o3 o4 o5
    obtain ⟨⟨o0, o1, o2, o3, o4, o5⟩, _⟩ := E3.out.op
    obtain ⟨⟨p0, p1, p2, p3⟩, _⟩ := E3.out.got
    by_cases hcr : c = 0 ∧ r = 0
    case neg =>
      have dcr : ((c != 0) = true) ∨ ((c != 0) = false ∧ (r != 0) = true) := by
        by_cases q : c = 0
        · exact Or.inr ⟨by rw [q]; rfl, bne_iff_ne.2 (fun e => hcr ⟨q, e⟩)⟩
        · exact Or.inl (bne_iff_ne.2 q)
      clear HA hcr
      rcases dcr with d1 | ⟨d1, d2⟩
      · go_wp2_with fail
        refine (HSP.out _ _ E3.out.view).mono ?_
        rintro e w5 ⟨sa, sb, rfl, _, _, q5⟩
        have E5 := hidA (And.intro ((E3.out.later q5).later (below_alloc w5 (.cells #[.int .i64 c, .int .i64 r, .int .i64 vl, .slice sa R.length sb] 30))) (BlkF.new w5 (.int .i64 c) (.int .i64 r) (.int .i64 vl) (.slice sa R.length sb) 30))
        clear q5 E3 HSP
        clear o0 o1 o2 o3 o4 o5 p0 p1 p2 p3
        obtain ⟨⟨o0, o1, o2, o3, o4, o5⟩, _⟩ := E5.out.1.op
        obtain ⟨⟨p0, p1, p2, p3⟩, _⟩ := E5.out.1.got
        obtain ⟨⟨y0, y1, y2, y3⟩, _⟩ := E5.out.2
        have BB := hidA E5.out.1.below
        clear E5
        go_wp2
        go_ret
        exact ⟨by simp, BB.out⟩
      · go_wp2_with fail
        refine (HSP.out _ _ E3.out.view).mono ?_
        rintro e w5 ⟨sa, sb, rfl, _, _, q5⟩
        have E5 := hidA (And.intro ((E3.out.later q5).later (below_alloc w5 (.cells #[.int .i64 c, .int .i64 r, .int .i64 vl, .slice sa R.length sb] 30))) (BlkF.new w5 (.int .i64 c) (.int .i64 r) (.int .i64 vl) (.slice sa R.length sb) 30))
        clear q5 E3 HSP
        clear o0 o1 o2 o3 o4 o5 p0 p1 p2 p3
        obtain ⟨⟨o0, o1, o2, o3, o4, o5⟩, _⟩ := E5.out.1.op
        obtain ⟨⟨p0, p1, p2, p3⟩, _⟩ := E5.out.1.got
        obtain ⟨⟨y0, y1, y2, y3⟩, _⟩ := E5.out.2
        have BB := hidA E5.out.1.below
        clear E5
        go_wp2
        go_ret
        exact ⟨by simp, BB.out⟩
    obtain ⟨rfl, rfl⟩ := hcr
    clear HSP
    have HZ : Hid (fsF m V = 0 ∧ opF 4 d n td tn vv = 0 ∧ applyP (listOf V m) 4 d n td tn vv = (0, vl, R)) := by
      rcases HA.out with ⟨q, q', _⟩ | ⟨_, q, q', _⟩ | ⟨q1, q2, _, q3⟩
      · exact absurd q'.symm q
      · exact absurd q'.symm q
      · exact ⟨q1, q2, q3⟩
    clear HA
    have hgv := good_of_pairs (fsF_zero HZ.out.1).1
    have hgr := hgv.applyOp HZ.out.2.1
    have hwr := wholeB_apply hgv (fsF_zero HZ.out.1).2 HZ.out.2.1
    rw [HZ.out.2.2] at hgr hwr
    have HG := hidA hgr
    have HFR := hidA (fs_of_whole hgr hwr)
    have HW := hidA ((whole_iff hgv).1 (fsF_zero HZ.out.1).2)
    have HB := hidA (op_bounds HZ.out.2.1)
    have HGV := hidA hgv
    clear hgv hgr hwr
    have hmp := moves_plain HGV.out HW.out (kd := 4) (by omega) HZ.out.2.1 (by rw [HZ.out.2.2])
    rw [HZ.out.2.2] at hmp
    obtain ⟨v, hv1, hv2, hv3, hv4, hv5⟩ := hmp
    obtain ⟨zo, hzo⟩ : ∃ zo, lookF R (kE d n) = (false, zo) := ⟨_, pair_of hv4 rfl⟩
    have HC1 : Hid (ChAns m V d n 0 v true) := Or.inr (Or.inr ⟨(fsF_zero HZ.out.1).1, ⟨HB.out.2.1, HB.out.2.2.1⟩, rfl, hv1⟩)
    have HC2 := hidA (ch_of HG.out HB.out.2.2.2.1 HB.out.2.2.2.2 hv3)
    have HC3 := hidA (ch_of HG.out HB.out.2.1 HB.out.2.2.1 hzo)
    obtain ⟨zz1, hz1⟩ : ∃ z : Int, z = linkN (listOf V m) v := ⟨_, rfl⟩
    have hzb := linkN_len (listOf V m) v
    rw [listOf_length] at hzb
    have HLA : Hid (LnkAns m V v 0 zz1) := Or.inr (Or.inr ⟨(fsF_zero HZ.out.1).1, hv2, rfl, hz1⟩)
    have HLB : Hid (LnkAns R.length (rowL R) v 0 zz1) := Or.inr (Or.inr ⟨pairs_of_good HG.out, hv2, rfl, by rw [listOf_rowL, hz1]; simpa using congrArg (fun q : Nat => (q : Int)) hv5.symm⟩)
    have hwr0 : IntKind.i64.wrap zz1 = zz1 := wrapM_i64 _ (by omega) (by omega)
    have hwr1 : IntKind.i64.wrap zz1 = zz1 := wrapM_i64 _ (by omega) (by omega)
    have hwr2 : IntKind.i64.wrap (zz1 + 0) = zz1 := by rw [Int.add_zero]; exact hwr1
    clear hv1 hv2 hv3 hv4 hv5 hzo hz1
    have fi1 := field_int1
    go_wp2_with fail
    refine (implChild_is _ 0 m V d n 0 v true _ E3.out.view (by omega) HC1.out).mono ?_
    rintro e w5 ⟨rfl, q⟩
    have E5 := hidA (And.intro ((E3.out.later q).later (below_alloc w5 (.cells #[.int .i64 0, .bool true, .int .i64 v] 35))) (Blk3.new w5 (.int .i64 0) (.bool true) (.int .i64 v) 35))
    clear q E3
    clear o0 o1 o2 o3 o4 o5 p0 p1 p2 p3
    obtain ⟨⟨o0, o1, o2, o3, o4, o5⟩, _⟩ := E5.out.1.op
    obtain ⟨⟨p0, p1, p2, p3⟩, _⟩ := E5.out.1.got
    go_wp2_with fail
    refine (implChild_is _ 0 R.length (rowL R) td tn 0 v true _ E5.out.1.row (by have := HR.out; omega) HC2.out).mono ?_
    rintro e w6 ⟨rfl, q⟩
    have E6 := hidA (And.intro ((E5.out.1.later q).later (below_alloc w6 (.cells #[.int .i64 0, .bool true, .int .i64 v] 35))) (And.intro ((E5.out.2.later q).later (below_alloc w6 (.cells #[.int .i64 0, .bool true, .int .i64 v] 35))) (Blk3.new w6 (.int .i64 0) (.bool true) (.int .i64 v) 35)))
    clear q E5
    clear o0 o1 o2 o3 o4 o5 p0 p1 p2 p3
    obtain ⟨⟨o0, o1, o2, o3, o4, o5⟩, _⟩ := E6.out.1.op
    obtain ⟨⟨p0, p1, p2, p3⟩, _⟩ := E6.out.1.got
    go_wp2_with fail
    refine (implChild_is _ 0 R.length (rowL R) d n 0 zo false _ E6.out.1.row (by have := HR.out; omega) HC3.out).mono ?_
    rintro e w8 ⟨rfl, q⟩
    have E8 := hidA (And.intro ((E6.out.1.later q).later (below_alloc w8 (.cells #[.int .i64 0, .bool false, .int .i64 zo] 35))) (And.intro ((E6.out.2.1.later q).later (below_alloc w8 (.cells #[.int .i64 0, .bool false, .int .i64 zo] 35))) (And.intro ((E6.out.2.2.later q).later (below_alloc w8 (.cells #[.int .i64 0, .bool false, .int .i64 zo] 35))) (Blk3.new w8 (.int .i64 0) (.bool false) (.int .i64 zo) 35))))
    clear q E6
    clear o0 o1 o2 o3 o4 o5 p0 p1 p2 p3
    obtain ⟨⟨o0, o1, o2, o3, o4, o5⟩, _⟩ := E8.out.1.op
    obtain ⟨⟨p0, p1, p2, p3⟩, _⟩ := E8.out.1.got
    go_wp2_with fail
    refine wp_region_held_drew (S := fun Z : World => Blk6 Z w1.heap.size (.int .i64 4) (.int .i64 d) (.int .i64 n) (.int .i64 td) (.int .i64 tn) (.int .i64 vv) ∧ BlkF Z w3.heap.size (.int .i64 0) (.int .i64 0) (.int .i64 vl) (.slice pa R.length pb) ∧ Blk3 Z w5.heap.size (.int .i64 0) (.bool true) (.int .i64 v) ∧ Blk3 Z w6.heap.size (.int .i64 0) (.bool true) (.int .i64 v) ∧ Blk3 Z w8.heap.size (.int .i64 0) (.bool false) (.int .i64 zo)) (by kernel_rfl) ⟨E8.out.1.op.later (Below.refl _ _).drew, E8.out.1.got.later (Below.refl _ _).drew, E8.out.2.1.later (Below.refl _ _).drew, E8.out.2.2.1.later (Below.refl _ _).drew, E8.out.2.2.2.later (Below.refl _ _).drew⟩ (fun hS => ?_)
    have H8 := hidA (E8.out.1.later (Below.refl _ _).drew)
    clear E8
    clear o0 o1 o2 o3 o4 o5 p0 p1 p2 p3
    generalize (w8.alloc (.cells #[.int .i64 0, .bool false, .int .i64 zo] 35)).drew = z0 at hS H8 ⊢
    refine tkH 0 ?_ hS (fun wx hx => ?_) ?_; rotate_left
    · obtain ⟨⟨⟨hx0, hx1, hx2, hx3, hx4, hx5⟩, _⟩, ⟨⟨hy0, hy1, hy2, hy3⟩, _⟩, ⟨⟨hz0, hz1, hz2⟩, _⟩, ⟨⟨ht0, ht1, ht2⟩, _⟩, ⟨hs0, hs1, hs2⟩, _⟩ := hx; go_simp; try with_reducible rfl
    refine tkH 1 ?_ hS (fun wx hx => ?_) ?_; rotate_left
    · obtain ⟨⟨⟨hx0, hx1, hx2, hx3, hx4, hx5⟩, _⟩, ⟨⟨hy0, hy1, hy2, hy3⟩, _⟩, ⟨⟨hz0, hz1, hz2⟩, _⟩, ⟨⟨ht0, ht1, ht2⟩, _⟩, ⟨hs0, hs1, hs2⟩, _⟩ := hx; go_simp; try with_reducible rfl
    refine tkH 2 ?_ hS (fun wx hx => ?_) ?_; rotate_left
    · obtain ⟨⟨⟨hx0, hx1, hx2, hx3, hx4, hx5⟩, _⟩, ⟨⟨hy0, hy1, hy2, hy3⟩, _⟩, ⟨⟨hz0, hz1, hz2⟩, _⟩, ⟨⟨ht0, ht1, ht2⟩, _⟩, ⟨hs0, hs1, hs2⟩, _⟩ := hx; go_simp; try with_reducible rfl
    refine tkH 3 ?_ hS (fun wx hx => ?_) ?_; rotate_left
    · obtain ⟨⟨⟨hx0, hx1, hx2, hx3, hx4, hx5⟩, _⟩, ⟨⟨hy0, hy1, hy2, hy3⟩, _⟩, ⟨⟨hz0, hz1, hz2⟩, _⟩, ⟨⟨ht0, ht1, ht2⟩, _⟩, ⟨hs0, hs1, hs2⟩, _⟩ := hx; go_simp; try with_reducible rfl
    refine tkH 4 ?_ hS (fun wx hx => ?_) ?_; rotate_left
    · obtain ⟨⟨⟨hx0, hx1, hx2, hx3, hx4, hx5⟩, _⟩, ⟨⟨hy0, hy1, hy2, hy3⟩, _⟩, ⟨⟨hz0, hz1, hz2⟩, _⟩, ⟨⟨ht0, ht1, ht2⟩, _⟩, ⟨hs0, hs1, hs2⟩, _⟩ := hx; go_simp; try with_reducible rfl
    refine tkH 5 ?_ hS (fun wx hx => ?_) ?_; rotate_left
    · obtain ⟨⟨⟨hx0, hx1, hx2, hx3, hx4, hx5⟩, _⟩, ⟨⟨hy0, hy1, hy2, hy3⟩, _⟩, ⟨⟨hz0, hz1, hz2⟩, _⟩, ⟨⟨ht0, ht1, ht2⟩, _⟩, ⟨hs0, hs1, hs2⟩, _⟩ := hx; go_simp; try with_reducible rfl
    refine tkH 6 ?_ hS (fun wx hx => ?_) ?_; rotate_left
    · obtain ⟨⟨⟨hx0, hx1, hx2, hx3, hx4, hx5⟩, _⟩, ⟨⟨hy0, hy1, hy2, hy3⟩, _⟩, ⟨⟨hz0, hz1, hz2⟩, _⟩, ⟨⟨ht0, ht1, ht2⟩, _⟩, ⟨hs0, hs1, hs2⟩, _⟩ := hx; go_simp; try with_reducible rfl
    refine tkH 7 ?_ hS (fun wx hx => ?_) ?_; rotate_left
    · obtain ⟨⟨⟨hx0, hx1, hx2, hx3, hx4, hx5⟩, _⟩, ⟨⟨hy0, hy1, hy2, hy3⟩, _⟩, ⟨⟨hz0, hz1, hz2⟩, _⟩, ⟨⟨ht0, ht1, ht2⟩, _⟩, ⟨hs0, hs1, hs2⟩, _⟩ := hx; go_simp; try with_reducible rfl
    refine tkH 8 ?_ hS (fun wx hx => ?_) ?_; rotate_left
    · obtain ⟨⟨⟨hx0, hx1, hx2, hx3, hx4, hx5⟩, _⟩, ⟨⟨hy0, hy1, hy2, hy3⟩, _⟩, ⟨⟨hz0, hz1, hz2⟩, _⟩, ⟨⟨ht0, ht1, ht2⟩, _⟩, ⟨hs0, hs1, hs2⟩, _⟩ := hx; go_simp; try with_reducible rfl
    refine tkH 9 ?_ hS (fun wx hx => ?_) ?_; rotate_left
    · obtain ⟨⟨⟨hx0, hx1, hx2, hx3, hx4, hx5⟩, _⟩, ⟨⟨hy0, hy1, hy2, hy3⟩, _⟩, ⟨⟨hz0, hz1, hz2⟩, _⟩, ⟨⟨ht0, ht1, ht2⟩, _⟩, ⟨hs0, hs1, hs2⟩, _⟩ := hx; go_simp; try with_reducible rfl
    refine tkH 10 ?_ hS (fun wx hx => ?_) ?_; rotate_left
    · obtain ⟨⟨⟨hx0, hx1, hx2, hx3, hx4, hx5⟩, _⟩, ⟨⟨hy0, hy1, hy2, hy3⟩, _⟩, ⟨⟨hz0, hz1, hz2⟩, _⟩, ⟨⟨ht0, ht1, ht2⟩, _⟩, ⟨hs0, hs1, hs2⟩, _⟩ := hx; go_simp; try with_reducible rfl
    refine tkH 11 ?_ hS (fun wx hx => ?_) ?_; rotate_left
    · obtain ⟨⟨⟨hx0, hx1, hx2, hx3, hx4, hx5⟩, _⟩, ⟨⟨hy0, hy1, hy2, hy3⟩, _⟩, ⟨⟨hz0, hz1, hz2⟩, _⟩, ⟨⟨ht0, ht1, ht2⟩, _⟩, ⟨hs0, hs1, hs2⟩, _⟩ := hx; go_simp; try with_reducible rfl
    refine tkH 12 ?_ hS (fun wx hx => ?_) ?_; rotate_left
    · obtain ⟨⟨⟨hx0, hx1, hx2, hx3, hx4, hx5⟩, _⟩, ⟨⟨hy0, hy1, hy2, hy3⟩, _⟩, ⟨⟨hz0, hz1, hz2⟩, _⟩, ⟨⟨ht0, ht1, ht2⟩, _⟩, ⟨hs0, hs1, hs2⟩, _⟩ := hx; go_simp; try with_reducible rfl
    refine tkH 13 ?_ hS (fun wx hx => ?_) ?_; rotate_left
    · obtain ⟨⟨⟨hx0, hx1, hx2, hx3, hx4, hx5⟩, _⟩, ⟨⟨hy0, hy1, hy2, hy3⟩, _⟩, ⟨⟨hz0, hz1, hz2⟩, _⟩, ⟨⟨ht0, ht1, ht2⟩, _⟩, ⟨hs0, hs1, hs2⟩, _⟩ := hx; go_simp; try with_reducible rfl
    refine tkH 14 ?_ hS (fun wx hx => ?_) ?_; rotate_left
    · obtain ⟨⟨⟨hx0, hx1, hx2, hx3, hx4, hx5⟩, _⟩, ⟨⟨hy0, hy1, hy2, hy3⟩, _⟩, ⟨⟨hz0, hz1, hz2⟩, _⟩, ⟨⟨ht0, ht1, ht2⟩, _⟩, ⟨hs0, hs1, hs2⟩, _⟩ := hx; go_simp; try with_reducible rfl
    refine tkH 15 ?_ hS (fun wx hx => ?_) ?_; rotate_left
    · obtain ⟨⟨⟨hx0, hx1, hx2, hx3, hx4, hx5⟩, _⟩, ⟨⟨hy0, hy1, hy2, hy3⟩, _⟩, ⟨⟨hz0, hz1, hz2⟩, _⟩, ⟨⟨ht0, ht1, ht2⟩, _⟩, ⟨hs0, hs1, hs2⟩, _⟩ := hx; go_simp; try with_reducible rfl
    refine tkH 16 ?_ hS (fun wx hx => ?_) ?_; rotate_left
    · obtain ⟨⟨⟨hx0, hx1, hx2, hx3, hx4, hx5⟩, _⟩, ⟨⟨hy0, hy1, hy2, hy3⟩, _⟩, ⟨⟨hz0, hz1, hz2⟩, _⟩, ⟨⟨ht0, ht1, ht2⟩, _⟩, ⟨hs0, hs1, hs2⟩, _⟩ := hx; go_simp; try with_reducible rfl
    refine tkH 17 ?_ hS (fun wx hx => ?_) ?_; rotate_left
    · obtain ⟨⟨⟨hx0, hx1, hx2, hx3, hx4, hx5⟩, _⟩, ⟨⟨hy0, hy1, hy2, hy3⟩, _⟩, ⟨⟨hz0, hz1, hz2⟩, _⟩, ⟨⟨ht0, ht1, ht2⟩, _⟩, ⟨hs0, hs1, hs2⟩, _⟩ := hx; go_simp; try with_reducible rfl
    refine tkH 18 ?_ hS (fun wx hx => ?_) ?_; rotate_left
    · obtain ⟨⟨⟨hx0, hx1, hx2, hx3, hx4, hx5⟩, _⟩, ⟨⟨hy0, hy1, hy2, hy3⟩, _⟩, ⟨⟨hz0, hz1, hz2⟩, _⟩, ⟨⟨ht0, ht1, ht2⟩, _⟩, ⟨hs0, hs1, hs2⟩, _⟩ := hx; go_simp; try with_reducible rfl
    refine tkH 19 ?_ hS (fun wx hx => ?_) ?_; rotate_left
    · obtain ⟨⟨⟨hx0, hx1, hx2, hx3, hx4, hx5⟩, _⟩, ⟨⟨hy0, hy1, hy2, hy3⟩, _⟩, ⟨⟨hz0, hz1, hz2⟩, _⟩, ⟨⟨ht0, ht1, ht2⟩, _⟩, ⟨hs0, hs1, hs2⟩, _⟩ := hx; go_simp; try with_reducible rfl
    refine tkH 20 ?_ hS (fun wx hx => ?_) ?_; rotate_left
    · obtain ⟨⟨⟨hx0, hx1, hx2, hx3, hx4, hx5⟩, _⟩, ⟨⟨hy0, hy1, hy2, hy3⟩, _⟩, ⟨⟨hz0, hz1, hz2⟩, _⟩, ⟨⟨ht0, ht1, ht2⟩, _⟩, ⟨hs0, hs1, hs2⟩, _⟩ := hx; go_simp; try with_reducible rfl
    refine tkH 21 ?_ hS (fun wx hx => ?_) ?_; rotate_left
    · obtain ⟨⟨⟨hx0, hx1, hx2, hx3, hx4, hx5⟩, _⟩, ⟨⟨hy0, hy1, hy2, hy3⟩, _⟩, ⟨⟨hz0, hz1, hz2⟩, _⟩, ⟨⟨ht0, ht1, ht2⟩, _⟩, ⟨hs0, hs1, hs2⟩, _⟩ := hx; go_simp; try with_reducible rfl
    refine tkH 22 ?_ hS (fun wx hx => ?_) ?_; rotate_left
    · obtain ⟨⟨⟨hx0, hx1, hx2, hx3, hx4, hx5⟩, _⟩, ⟨⟨hy0, hy1, hy2, hy3⟩, _⟩, ⟨⟨hz0, hz1, hz2⟩, _⟩, ⟨⟨ht0, ht1, ht2⟩, _⟩, ⟨hs0, hs1, hs2⟩, _⟩ := hx; go_simp; try with_reducible rfl
    refine tkH 23 ?_ hS (fun wx hx => ?_) ?_; rotate_left
    · obtain ⟨⟨⟨hx0, hx1, hx2, hx3, hx4, hx5⟩, _⟩, ⟨⟨hy0, hy1, hy2, hy3⟩, _⟩, ⟨⟨hz0, hz1, hz2⟩, _⟩, ⟨⟨ht0, ht1, ht2⟩, _⟩, ⟨hs0, hs1, hs2⟩, _⟩ := hx; go_simp; try with_reducible rfl
    refine tkH 24 ?_ hS (fun wx hx => ?_) ?_; rotate_left
    · obtain ⟨⟨⟨hx0, hx1, hx2, hx3, hx4, hx5⟩, _⟩, ⟨⟨hy0, hy1, hy2, hy3⟩, _⟩, ⟨⟨hz0, hz1, hz2⟩, _⟩, ⟨⟨ht0, ht1, ht2⟩, _⟩, ⟨hs0, hs1, hs2⟩, _⟩ := hx; go_simp; try with_reducible rfl
    refine tkH 25 ?_ hS (fun wx hx => ?_) ?_; rotate_left
    · obtain ⟨⟨⟨hx0, hx1, hx2, hx3, hx4, hx5⟩, _⟩, ⟨⟨hy0, hy1, hy2, hy3⟩, _⟩, ⟨⟨hz0, hz1, hz2⟩, _⟩, ⟨⟨ht0, ht1, ht2⟩, _⟩, ⟨hs0, hs1, hs2⟩, _⟩ := hx; go_simp; try with_reducible rfl
    refine tkH 28 ?_ hS (fun wx hx => ?_) ?_; rotate_left
    · obtain ⟨⟨⟨hx0, hx1, hx2, hx3, hx4, hx5⟩, _⟩, ⟨⟨hy0, hy1, hy2, hy3⟩, _⟩, ⟨⟨hz0, hz1, hz2⟩, _⟩, ⟨⟨ht0, ht1, ht2⟩, _⟩, ⟨hs0, hs1, hs2⟩, _⟩ := hx; go_simp; try with_reducible rfl
    refine tkH 29 ?_ hS (fun wx hx => ?_) ?_; rotate_left
    · obtain ⟨⟨⟨hx0, hx1, hx2, hx3, hx4, hx5⟩, _⟩, ⟨⟨hy0, hy1, hy2, hy3⟩, _⟩, ⟨⟨hz0, hz1, hz2⟩, _⟩, ⟨⟨ht0, ht1, ht2⟩, _⟩, ⟨hs0, hs1, hs2⟩, _⟩ := hx; go_simp; try with_reducible rfl
    refine tkH 30 ?_ hS (fun wx hx => ?_) ?_; rotate_left
    · obtain ⟨⟨⟨hx0, hx1, hx2, hx3, hx4, hx5⟩, _⟩, ⟨⟨hy0, hy1, hy2, hy3⟩, _⟩, ⟨⟨hz0, hz1, hz2⟩, _⟩, ⟨⟨ht0, ht1, ht2⟩, _⟩, ⟨hs0, hs1, hs2⟩, _⟩ := hx; go_simp; try with_reducible rfl
    refine tkH 33 ?_ hS (fun wx hx => ?_) ?_; rotate_left
    · obtain ⟨⟨⟨hx0, hx1, hx2, hx3, hx4, hx5⟩, _⟩, ⟨⟨hy0, hy1, hy2, hy3⟩, _⟩, ⟨⟨hz0, hz1, hz2⟩, _⟩, ⟨⟨ht0, ht1, ht2⟩, _⟩, ⟨hs0, hs1, hs2⟩, _⟩ := hx; go_simp; try with_reducible rfl
    refine rdH 26 (fun K hK => ?_)
    go_simp
    go_wp2_with fail
    refine (implLinks_is _ 0 R.length (rowL R) v 0 zz1 _ H8.out.row (by have := HR.out; omega) HLB.out).mono ?_
    rintro e z1 ⟨rfl, q⟩
    have hS1 := And.intro (hS.1.later q) (And.intro (hS.2.1.later q) (And.intro (hS.2.2.1.later q) (And.intro (hS.2.2.2.1.later q) (hS.2.2.2.2.later q))))
    have H1 := hidA (H8.out.later q)
    clear q H8 hS
    have H8 := H1
    clear H1
    go_wp2_with fail
    refine hK.out _ _ hS1 (fun hS => ?_)
    clear hK K
    clear hS1
    refine tkH 27 ?_ hS (fun wx hx => ?_) ?_; rotate_left
    · obtain ⟨⟨⟨hx0, hx1, hx2, hx3, hx4, hx5⟩, _⟩, ⟨⟨hy0, hy1, hy2, hy3⟩, _⟩, ⟨⟨hz0, hz1, hz2⟩, _⟩, ⟨⟨ht0, ht1, ht2⟩, _⟩, ⟨hs0, hs1, hs2⟩, _⟩ := hx; go_simp; try with_reducible rfl
    refine rdH 31 (fun K hK => ?_)
    go_simp
    go_wp2_with fail
    refine (implLinks_is _ 0 m V v 0 zz1 _ H8.out.view (by have := HR.out; omega) HLA.out).mono ?_
    rintro e z2 ⟨rfl, q⟩
    have hS1 := And.intro (hS.1.later q) (And.intro (hS.2.1.later q) (And.intro (hS.2.2.1.later q) (And.intro (hS.2.2.2.1.later q) (hS.2.2.2.2.later q))))
    have H1 := hidA (H8.out.later q)
    clear q H8 hS
    have H8 := H1
    clear H1
    go_wp2_with fail
    refine hK.out _ _ hS1 (fun hS => ?_)
    clear hK K
    clear hS1
    refine tkH 32 ?_ hS (fun wx hx => ?_) ?_; rotate_left
    · obtain ⟨⟨⟨hx0, hx1, hx2, hx3, hx4, hx5⟩, _⟩, ⟨⟨hy0, hy1, hy2, hy3⟩, _⟩, ⟨⟨hz0, hz1, hz2⟩, _⟩, ⟨⟨ht0, ht1, ht2⟩, _⟩, ⟨hs0, hs1, hs2⟩, _⟩ := hx; go_simp; try with_reducible rfl
    refine tkH 34 ?_ hS (fun wx hx => ?_) ?_; rotate_left
    · obtain ⟨⟨⟨hx0, hx1, hx2, hx3, hx4, hx5⟩, _⟩, ⟨⟨hy0, hy1, hy2, hy3⟩, _⟩, ⟨⟨hz0, hz1, hz2⟩, _⟩, ⟨⟨ht0, ht1, ht2⟩, _⟩, ⟨hs0, hs1, hs2⟩, _⟩ := hx; go_simp; try with_reducible rfl
    refine tkH 35 ?_ hS (fun wx hx => ?_) ?_; rotate_left
    · obtain ⟨⟨⟨hx0, hx1, hx2, hx3, hx4, hx5⟩, _⟩, ⟨⟨hy0, hy1, hy2, hy3⟩, _⟩, ⟨⟨hz0, hz1, hz2⟩, _⟩, ⟨⟨ht0, ht1, ht2⟩, _⟩, ⟨hs0, hs1, hs2⟩, _⟩ := hx; go_simp; try with_reducible rfl
    refine tkH 36 ?_ hS (fun wx hx => ?_) ?_; rotate_left
    · obtain ⟨⟨⟨hx0, hx1, hx2, hx3, hx4, hx5⟩, _⟩, ⟨⟨hy0, hy1, hy2, hy3⟩, _⟩, ⟨⟨hz0, hz1, hz2⟩, _⟩, ⟨⟨ht0, ht1, ht2⟩, _⟩, ⟨hs0, hs1, hs2⟩, _⟩ := hx; go_simp; try with_reducible rfl
    refine tkH 37 ?_ hS (fun wx hx => ?_) ?_; rotate_left
    · obtain ⟨⟨⟨hx0, hx1, hx2, hx3, hx4, hx5⟩, _⟩, ⟨⟨hy0, hy1, hy2, hy3⟩, _⟩, ⟨⟨hz0, hz1, hz2⟩, _⟩, ⟨⟨ht0, ht1, ht2⟩, _⟩, ⟨hs0, hs1, hs2⟩, _⟩ := hx; go_simp; try with_reducible rfl
    refine tkH 38 ?_ hS (fun wx hx => ?_) ?_; rotate_left
    · obtain ⟨⟨⟨hx0, hx1, hx2, hx3, hx4, hx5⟩, _⟩, ⟨⟨hy0, hy1, hy2, hy3⟩, _⟩, ⟨⟨hz0, hz1, hz2⟩, _⟩, ⟨⟨ht0, ht1, ht2⟩, _⟩, ⟨hs0, hs1, hs2⟩, _⟩ := hx; go_simp; try with_reducible rfl
    refine tkH 39 ?_ hS (fun wx hx => ?_) ?_; rotate_left
    · obtain ⟨⟨⟨hx0, hx1, hx2, hx3, hx4, hx5⟩, _⟩, ⟨⟨hy0, hy1, hy2, hy3⟩, _⟩, ⟨⟨hz0, hz1, hz2⟩, _⟩, ⟨⟨ht0, ht1, ht2⟩, _⟩, ⟨hs0, hs1, hs2⟩, _⟩ := hx; go_simp; try with_reducible rfl
    refine rdH 40 (fun K hK => ?_)
    go_simp
    go_wp2_with fail
    refine (implFs_is _ 0 R.length (rowL R) _ H8.out.row (by have := HR.out; omega)).mono ?_
    rintro e zz ⟨rfl, q⟩
    rw [HFR.out]
    have hS1 := And.intro (hS.1.later q) (And.intro (hS.2.1.later q) (And.intro (hS.2.2.1.later q) (And.intro (hS.2.2.2.1.later q) (hS.2.2.2.2.later q))))
    have BB := hidA (H8.out.below.trans (q.mono H8.out.below.size))
    clear q H8 hS
    go_wp2_with fail
    refine hK.out _ _ hS1 (fun hS => ?_)
    clear hK K
    clear hS1
    refine tkH 41 ?_ hS (fun wx hx => ?_) ?_; rotate_left
    · obtain ⟨⟨⟨hx0, hx1, hx2, hx3, hx4, hx5⟩, _⟩, ⟨⟨hy0, hy1, hy2, hy3⟩, _⟩, ⟨⟨hz0, hz1, hz2⟩, _⟩, ⟨⟨ht0, ht1, ht2⟩, _⟩, ⟨hs0, hs1, hs2⟩, _⟩ := hx; go_simp; try with_reducible rfl
    refine tkH 42 ?_ hS (fun wx hx => ?_) ?_; rotate_left
    · obtain ⟨⟨⟨hx0, hx1, hx2, hx3, hx4, hx5⟩, _⟩, ⟨⟨hy0, hy1, hy2, hy3⟩, _⟩, ⟨⟨hz0, hz1, hz2⟩, _⟩, ⟨⟨ht0, ht1, ht2⟩, _⟩, ⟨hs0, hs1, hs2⟩, _⟩ := hx; go_simp; try with_reducible rfl
    refine tkH 43 ?_ hS (fun wx hx => ?_) ?_; rotate_left
    · obtain ⟨⟨⟨hx0, hx1, hx2, hx3, hx4, hx5⟩, _⟩, ⟨⟨hy0, hy1, hy2, hy3⟩, _⟩, ⟨⟨hz0, hz1, hz2⟩, _⟩, ⟨⟨ht0, ht1, ht2⟩, _⟩, ⟨hs0, hs1, hs2⟩, _⟩ := hx; go_simp; try with_reducible rfl
    clear hS
    refine wpAnyH_done (by kernel_rfl) ?_ _
    go_simp
    go_wp2
    go_ret
    exact ⟨by simp, BB.out⟩
  by_cases h5 : kd = 5
  · subst h5
    have HX := hidA (And.intro OB.out (And.intro OP.out.row OP.out.below))
    clear OB OP h4
    obtain ⟨c, r, vl, R, hans, hR⟩ := ApAns.get m V 5 d n td tn vv
    have HR : Hid (R.length ≤ 200) := hR
    have HSP : Hid (∀ u X, Row X 0 2 m V u → Calls Tryz.prog 9 #[u, .agg #[.int .i64 5, .int .i64 d, .int .i64 n, .int .i64 td, .int .i64 tn, .int .i64 vv]] X (ResFs X c r vl R)) := fun u X hu => specApplyFs_is u 0 m V 5 d n td tn vv c r vl R X hu (by omega) hans
    have HIM : Hid (∀ u X, Row X 0 2 m V u → Calls Tryz.prog 8 #[u, .agg #[.int .i64 5, .int .i64 d, .int .i64 n, .int .i64 td, .int .i64 tn, .int .i64 vv]] X (ResFs X c r vl R)) := fun u X hu => implApplyFs_is u 0 m V 5 d n td tn vv c r vl R X hu (by omega) hans
    have HA : Hid (ApAns m V 5 d n td tn vv c r vl R) := hans
    clear hans hR
    obtain ⟨⟨o0, o1, o2, o3, o4, o5⟩, _⟩ := HX.out.1
    go_wp2_with fail
    refine (HIM.out _ _ HX.out.2.1).mono ?_
    rintro e w3 ⟨pa, pb, rfl, hrow, _, q3⟩
    have E3 : Hid (EnvA w w1.heap.size w3.heap.size c r vl 5 d n td tn vv m V (.slice ao m cp) R (.slice pa R.length pb) (w3.alloc (.cells #[.int .i64 c, .int .i64 r, .int .i64 vl, .slice pa R.length pb] 30))) :=
      ⟨(HX.out.2.2.trans (q3.mono HX.out.2.2.size)).alloc (Nat.le_trans HX.out.2.2.size q3.size) _, (HX.out.2.1.later q3).alloc _, (HX.out.1.later q3).alloc _, BlkF.new w3 _ _ _ _ _, (hrow.mono (Nat.zero_le _)).alloc _⟩
    clear hrow q3 HX HIM o0 o1 o2 o3 o4 o5
    obtain ⟨⟨o0, o1, o2, o3, o4, o5⟩, _⟩ := E3.out.op
    obtain ⟨⟨p0, p1, p2, p3⟩, _⟩ := E3.out.got
    by_cases hcr : c = 0 ∧ r = 0
    case neg =>
      have dcr : ((c != 0) = true) ∨ ((c != 0) = false ∧ (r != 0) = true) := by
        by_cases q : c = 0
        · exact Or.inr ⟨by rw [q]; rfl, bne_iff_ne.2 (fun e => hcr ⟨q, e⟩)⟩
        · exact Or.inl (bne_iff_ne.2 q)
      clear HA hcr
      rcases dcr with d1 | ⟨d1, d2⟩
      · go_wp2_with fail
        refine (HSP.out _ _ E3.out.view).mono ?_
        rintro e w5 ⟨sa, sb, rfl, _, _, q5⟩
        have E5 := hidA (And.intro ((E3.out.later q5).later (below_alloc w5 (.cells #[.int .i64 c, .int .i64 r, .int .i64 vl, .slice sa R.length sb] 30))) (BlkF.new w5 (.int .i64 c) (.int .i64 r) (.int .i64 vl) (.slice sa R.length sb) 30))
        clear q5 E3 HSP
        clear o0 o1 o2 o3 o4 o5 p0 p1 p2 p3
        obtain ⟨⟨o0, o1, o2, o3, o4, o5⟩, _⟩ := E5.out.1.op
        obtain ⟨⟨p0, p1, p2, p3⟩, _⟩ := E5.out.1.got
        obtain ⟨⟨y0, y1, y2, y3⟩, _⟩ := E5.out.2
        have BB := hidA E5.out.1.below
        clear E5
        go_wp2
        go_ret
        exact ⟨by simp, BB.out⟩
      · go_wp2_with fail
        refine (HSP.out _ _ E3.out.view).mono ?_
        rintro e w5 ⟨sa, sb, rfl, _, _, q5⟩
        have E5 := hidA (And.intro ((E3.out.later q5).later (below_alloc w5 (.cells #[.int .i64 c, .int .i64 r, .int .i64 vl, .slice sa R.length sb] 30))) (BlkF.new w5 (.int .i64 c) (.int .i64 r) (.int .i64 vl) (.slice sa R.length sb) 30))
        clear q5 E3 HSP
        clear o0 o1 o2 o3 o4 o5 p0 p1 p2 p3
        obtain ⟨⟨o0, o1, o2, o3, o4, o5⟩, _⟩ := E5.out.1.op
        obtain ⟨⟨p0, p1, p2, p3⟩, _⟩ := E5.out.1.got
        obtain ⟨⟨y0, y1, y2, y3⟩, _⟩ := E5.out.2
        have BB := hidA E5.out.1.below
        clear E5
        go_wp2
        go_ret
        exact ⟨by simp, BB.out⟩
    obtain ⟨rfl, rfl⟩ := hcr
    clear HSP
    have HZ : Hid (fsF m V = 0 ∧ opF 5 d n td tn vv = 0 ∧ applyP (listOf V m) 5 d n td tn vv = (0, vl, R)) := by
      rcases HA.out with ⟨q, q', _⟩ | ⟨_, q, q', _⟩ | ⟨q1, q2, _, q3⟩
      · exact absurd q'.symm q
      · exact absurd q'.symm q
      · exact ⟨q1, q2, q3⟩
    clear HA
    have hgv := good_of_pairs (fsF_zero HZ.out.1).1
    have hgr := hgv.applyOp HZ.out.2.1
    have hwr := wholeB_apply hgv (fsF_zero HZ.out.1).2 HZ.out.2.1
    rw [HZ.out.2.2] at hgr hwr
    have HG := hidA hgr
    have HFR := hidA (fs_of_whole hgr hwr)
    have HW := hidA ((whole_iff hgv).1 (fsF_zero HZ.out.1).2)
    have HB := hidA (op_bounds HZ.out.2.1)
    have HGV := hidA hgv
    clear hgv hgr hwr
    have hmp := moves_plain HGV.out HW.out (kd := 5) (by omega) HZ.out.2.1 (by rw [HZ.out.2.2])
    rw [HZ.out.2.2] at hmp
    obtain ⟨v, hv1, hv2, hv3, hv4, hv5⟩ := hmp
    obtain ⟨zo, hzo⟩ : ∃ zo, lookF R (kE d n) = (true, zo) := ⟨_, pair_of hv4 rfl⟩
    have HC1 : Hid (ChAns m V d n 0 v true) := Or.inr (Or.inr ⟨(fsF_zero HZ.out.1).1, ⟨HB.out.2.1, HB.out.2.2.1⟩, rfl, hv1⟩)
    have HC2 := hidA (ch_of HG.out HB.out.2.2.2.1 HB.out.2.2.2.2 hv3)
    have HC3 := hidA (ch_of HG.out HB.out.2.1 HB.out.2.2.1 hzo)
    obtain ⟨zz1, hz1⟩ : ∃ z : Int, z = linkN (listOf V m) v := ⟨_, rfl⟩
    have hzb := linkN_len (listOf V m) v
    rw [listOf_length] at hzb
    have HLA : Hid (LnkAns m V v 0 zz1) := Or.inr (Or.inr ⟨(fsF_zero HZ.out.1).1, hv2, rfl, hz1⟩)
    have HLB : Hid (LnkAns R.length (rowL R) v 0 (zz1 + 1)) := Or.inr (Or.inr ⟨pairs_of_good HG.out, hv2, rfl, by rw [listOf_rowL, hz1]; simpa using congrArg (fun q : Nat => (q : Int)) hv5.symm⟩)
    have hwr0 : IntKind.i64.wrap (zz1 + 1) = (zz1 + 1) := wrapM_i64 _ (by omega) (by omega)
    have hwr1 : IntKind.i64.wrap zz1 = zz1 := wrapM_i64 _ (by omega) (by omega)
    have hwr2 : IntKind.i64.wrap (zz1 + 0) = zz1 := by rw [Int.add_zero]; exact hwr1
    clear hv1 hv2 hv3 hv4 hv5 hzo hz1
    have fi1 := field_int1
    go_wp2_with fail
    refine (implChild_is _ 0 m V d n 0 v true _ E3.out.view (by omega) HC1.out).mono ?_
    rintro e w5 ⟨rfl, q⟩
    have E5 := hidA (And.intro ((E3.out.later q).later (below_alloc w5 (.cells #[.int .i64 0, .bool true, .int .i64 v] 35))) (Blk3.new w5 (.int .i64 0) (.bool true) (.int .i64 v) 35))
    clear q E3
    clear o0 o1 o2 o3 o4 o5 p0 p1 p2 p3
    obtain ⟨⟨o0, o1, o2, o3, o4, o5⟩, _⟩ := E5.out.1.op
    obtain ⟨⟨p0, p1, p2, p3⟩, _⟩ := E5.out.1.got
    go_wp2_with fail
    refine (implChild_is _ 0 R.length (rowL R) td tn 0 v true _ E5.out.1.row (by have := HR.out; omega) HC2.out).mono ?_
    rintro e w6 ⟨rfl, q⟩
    have E6 := hidA (And.intro ((E5.out.1.later q).later (below_alloc w6 (.cells #[.int .i64 0, .bool true, .int .i64 v] 35))) (And.intro ((E5.out.2.later q).later (below_alloc w6 (.cells #[.int .i64 0, .bool true, .int .i64 v] 35))) (Blk3.new w6 (.int .i64 0) (.bool true) (.int .i64 v) 35)))
    clear q E5
    clear o0 o1 o2 o3 o4 o5 p0 p1 p2 p3
    obtain ⟨⟨o0, o1, o2, o3, o4, o5⟩, _⟩ := E6.out.1.op
    obtain ⟨⟨p0, p1, p2, p3⟩, _⟩ := E6.out.1.got
    go_wp2_with fail
    refine (implChild_is _ 0 R.length (rowL R) d n 0 zo true _ E6.out.1.row (by have := HR.out; omega) HC3.out).mono ?_
    rintro e w8 ⟨rfl, q⟩
    have E8 := hidA (And.intro ((E6.out.1.later q).later (below_alloc w8 (.cells #[.int .i64 0, .bool true, .int .i64 zo] 35))) (And.intro ((E6.out.2.1.later q).later (below_alloc w8 (.cells #[.int .i64 0, .bool true, .int .i64 zo] 35))) (And.intro ((E6.out.2.2.later q).later (below_alloc w8 (.cells #[.int .i64 0, .bool true, .int .i64 zo] 35))) (Blk3.new w8 (.int .i64 0) (.bool true) (.int .i64 zo) 35))))
    clear q E6
    clear o0 o1 o2 o3 o4 o5 p0 p1 p2 p3
    obtain ⟨⟨o0, o1, o2, o3, o4, o5⟩, _⟩ := E8.out.1.op
    obtain ⟨⟨p0, p1, p2, p3⟩, _⟩ := E8.out.1.got
    go_wp2_with fail
    refine wp_region_held_drew (S := fun Z : World => Blk6 Z w1.heap.size (.int .i64 5) (.int .i64 d) (.int .i64 n) (.int .i64 td) (.int .i64 tn) (.int .i64 vv) ∧ BlkF Z w3.heap.size (.int .i64 0) (.int .i64 0) (.int .i64 vl) (.slice pa R.length pb) ∧ Blk3 Z w5.heap.size (.int .i64 0) (.bool true) (.int .i64 v) ∧ Blk3 Z w6.heap.size (.int .i64 0) (.bool true) (.int .i64 v) ∧ Blk3 Z w8.heap.size (.int .i64 0) (.bool true) (.int .i64 zo)) (by kernel_rfl) ⟨E8.out.1.op.later (Below.refl _ _).drew, E8.out.1.got.later (Below.refl _ _).drew, E8.out.2.1.later (Below.refl _ _).drew, E8.out.2.2.1.later (Below.refl _ _).drew, E8.out.2.2.2.later (Below.refl _ _).drew⟩ (fun hS => ?_)
    have H8 := hidA (E8.out.1.later (Below.refl _ _).drew)
    clear E8
    clear o0 o1 o2 o3 o4 o5 p0 p1 p2 p3
    generalize (w8.alloc (.cells #[.int .i64 0, .bool true, .int .i64 zo] 35)).drew = z0 at hS H8 ⊢
    refine tkH 0 ?_ hS (fun wx hx => ?_) ?_; rotate_left
    · obtain ⟨⟨⟨hx0, hx1, hx2, hx3, hx4, hx5⟩, _⟩, ⟨⟨hy0, hy1, hy2, hy3⟩, _⟩, ⟨⟨hz0, hz1, hz2⟩, _⟩, ⟨⟨ht0, ht1, ht2⟩, _⟩, ⟨hs0, hs1, hs2⟩, _⟩ := hx; go_simp; try with_reducible rfl
    refine tkH 1 ?_ hS (fun wx hx => ?_) ?_; rotate_left
    · obtain ⟨⟨⟨hx0, hx1, hx2, hx3, hx4, hx5⟩, _⟩, ⟨⟨hy0, hy1, hy2, hy3⟩, _⟩, ⟨⟨hz0, hz1, hz2⟩, _⟩, ⟨⟨ht0, ht1, ht2⟩, _⟩, ⟨hs0, hs1, hs2⟩, _⟩ := hx; go_simp; try with_reducible rfl
    refine tkH 2 ?_ hS (fun wx hx => ?_) ?_; rotate_left
    · obtain ⟨⟨⟨hx0, hx1, hx2, hx3, hx4, hx5⟩, _⟩, ⟨⟨hy0, hy1, hy2, hy3⟩, _⟩, ⟨⟨hz0, hz1, hz2⟩, _⟩, ⟨⟨ht0, ht1, ht2⟩, _⟩, ⟨hs0, hs1, hs2⟩, _⟩ := hx; go_simp; try with_reducible rfl
    refine tkH 3 ?_ hS (fun wx hx => ?_) ?_; rotate_left
    · obtain ⟨⟨⟨hx0, hx1, hx2, hx3, hx4, hx5⟩, _⟩, ⟨⟨hy0, hy1, hy2, hy3⟩, _⟩, ⟨⟨hz0, hz1, hz2⟩, _⟩, ⟨⟨ht0, ht1, ht2⟩, _⟩, ⟨hs0, hs1, hs2⟩, _⟩ := hx; go_simp; try with_reducible rfl
    refine tkH 4 ?_ hS (fun wx hx => ?_) ?_; rotate_left
    · obtain ⟨⟨⟨hx0, hx1, hx2, hx3, hx4, hx5⟩, _⟩, ⟨⟨hy0, hy1, hy2, hy3⟩, _⟩, ⟨⟨hz0, hz1, hz2⟩, _⟩, ⟨⟨ht0, ht1, ht2⟩, _⟩, ⟨hs0, hs1, hs2⟩, _⟩ := hx; go_simp; try with_reducible rfl
    refine tkH 5 ?_ hS (fun wx hx => ?_) ?_; rotate_left
    · obtain ⟨⟨⟨hx0, hx1, hx2, hx3, hx4, hx5⟩, _⟩, ⟨⟨hy0, hy1, hy2, hy3⟩, _⟩, ⟨⟨hz0, hz1, hz2⟩, _⟩, ⟨⟨ht0, ht1, ht2⟩, _⟩, ⟨hs0, hs1, hs2⟩, _⟩ := hx; go_simp; try with_reducible rfl
    refine tkH 6 ?_ hS (fun wx hx => ?_) ?_; rotate_left
    · obtain ⟨⟨⟨hx0, hx1, hx2, hx3, hx4, hx5⟩, _⟩, ⟨⟨hy0, hy1, hy2, hy3⟩, _⟩, ⟨⟨hz0, hz1, hz2⟩, _⟩, ⟨⟨ht0, ht1, ht2⟩, _⟩, ⟨hs0, hs1, hs2⟩, _⟩ := hx; go_simp; try with_reducible rfl
    refine tkH 7 ?_ hS (fun wx hx => ?_) ?_; rotate_left
    · obtain ⟨⟨⟨hx0, hx1, hx2, hx3, hx4, hx5⟩, _⟩, ⟨⟨hy0, hy1, hy2, hy3⟩, _⟩, ⟨⟨hz0, hz1, hz2⟩, _⟩, ⟨⟨ht0, ht1, ht2⟩, _⟩, ⟨hs0, hs1, hs2⟩, _⟩ := hx; go_simp; try with_reducible rfl
    refine tkH 8 ?_ hS (fun wx hx => ?_) ?_; rotate_left
    · obtain ⟨⟨⟨hx0, hx1, hx2, hx3, hx4, hx5⟩, _⟩, ⟨⟨hy0, hy1, hy2, hy3⟩, _⟩, ⟨⟨hz0, hz1, hz2⟩, _⟩, ⟨⟨ht0, ht1, ht2⟩, _⟩, ⟨hs0, hs1, hs2⟩, _⟩ := hx; go_simp; try with_reducible rfl
    refine tkH 9 ?_ hS (fun wx hx => ?_) ?_; rotate_left
    · obtain ⟨⟨⟨hx0, hx1, hx2, hx3, hx4, hx5⟩, _⟩, ⟨⟨hy0, hy1, hy2, hy3⟩, _⟩, ⟨⟨hz0, hz1, hz2⟩, _⟩, ⟨⟨ht0, ht1, ht2⟩, _⟩, ⟨hs0, hs1, hs2⟩, _⟩ := hx; go_simp; try with_reducible rfl
    refine tkH 10 ?_ hS (fun wx hx => ?_) ?_; rotate_left
    · obtain ⟨⟨⟨hx0, hx1, hx2, hx3, hx4, hx5⟩, _⟩, ⟨⟨hy0, hy1, hy2, hy3⟩, _⟩, ⟨⟨hz0, hz1, hz2⟩, _⟩, ⟨⟨ht0, ht1, ht2⟩, _⟩, ⟨hs0, hs1, hs2⟩, _⟩ := hx; go_simp; try with_reducible rfl
    refine tkH 11 ?_ hS (fun wx hx => ?_) ?_; rotate_left
    · obtain ⟨⟨⟨hx0, hx1, hx2, hx3, hx4, hx5⟩, _⟩, ⟨⟨hy0, hy1, hy2, hy3⟩, _⟩, ⟨⟨hz0, hz1, hz2⟩, _⟩, ⟨⟨ht0, ht1, ht2⟩, _⟩, ⟨hs0, hs1, hs2⟩, _⟩ := hx; go_simp; try with_reducible rfl
    refine tkH 12 ?_ hS (fun wx hx => ?_) ?_; rotate_left
    · obtain ⟨⟨⟨hx0, hx1, hx2, hx3, hx4, hx5⟩, _⟩, ⟨⟨hy0, hy1, hy2, hy3⟩, _⟩, ⟨⟨hz0, hz1, hz2⟩, _⟩, ⟨⟨ht0, ht1, ht2⟩, _⟩, ⟨hs0, hs1, hs2⟩, _⟩ := hx; go_simp; try with_reducible rfl
    refine tkH 13 ?_ hS (fun wx hx => ?_) ?_; rotate_left
    · obtain ⟨⟨⟨hx0, hx1, hx2, hx3, hx4, hx5⟩, _⟩, ⟨⟨hy0, hy1, hy2, hy3⟩, _⟩, ⟨⟨hz0, hz1, hz2⟩, _⟩, ⟨⟨ht0, ht1, ht2⟩, _⟩, ⟨hs0, hs1, hs2⟩, _⟩ := hx; go_simp; try with_reducible rfl
    refine tkH 14 ?_ hS (fun wx hx => ?_) ?_; rotate_left
    · obtain ⟨⟨⟨hx0, hx1, hx2, hx3, hx4, hx5⟩, _⟩, ⟨⟨hy0, hy1, hy2, hy3⟩, _⟩, ⟨⟨hz0, hz1, hz2⟩, _⟩, ⟨⟨ht0, ht1, ht2⟩, _⟩, ⟨hs0, hs1, hs2⟩, _⟩ := hx; go_simp; try with_reducible rfl
    refine tkH 15 ?_ hS (fun wx hx => ?_) ?_; rotate_left
    · obtain ⟨⟨⟨hx0, hx1, hx2, hx3, hx4, hx5⟩, _⟩, ⟨⟨hy0, hy1, hy2, hy3⟩, _⟩, ⟨⟨hz0, hz1, hz2⟩, _⟩, ⟨⟨ht0, ht1, ht2⟩, _⟩, ⟨hs0, hs1, hs2⟩, _⟩ := hx; go_simp; try with_reducible rfl
    refine tkH 16 ?_ hS (fun wx hx => ?_) ?_; rotate_left
    · obtain ⟨⟨⟨hx0, hx1, hx2, hx3, hx4, hx5⟩, _⟩, ⟨⟨hy0, hy1, hy2, hy3⟩, _⟩, ⟨⟨hz0, hz1, hz2⟩, _⟩, ⟨⟨ht0, ht1, ht2⟩, _⟩, ⟨hs0, hs1, hs2⟩, _⟩ := hx; go_simp; try with_reducible rfl
    refine tkH 17 ?_ hS (fun wx hx => ?_) ?_; rotate_left
    · obtain ⟨⟨⟨hx0, hx1, hx2, hx3, hx4, hx5⟩, _⟩, ⟨⟨hy0, hy1, hy2, hy3⟩, _⟩, ⟨⟨hz0, hz1, hz2⟩, _⟩, ⟨⟨ht0, ht1, ht2⟩, _⟩, ⟨hs0, hs1, hs2⟩, _⟩ := hx; go_simp; try with_reducible rfl
    refine tkH 18 ?_ hS (fun wx hx => ?_) ?_; rotate_left
    · obtain ⟨⟨⟨hx0, hx1, hx2, hx3, hx4, hx5⟩, _⟩, ⟨⟨hy0, hy1, hy2, hy3⟩, _⟩, ⟨⟨hz0, hz1, hz2⟩, _⟩, ⟨⟨ht0, ht1, ht2⟩, _⟩, ⟨hs0, hs1, hs2⟩, _⟩ := hx; go_simp; try with_reducible rfl
    refine tkH 19 ?_ hS (fun wx hx => ?_) ?_; rotate_left
    · obtain ⟨⟨⟨hx0, hx1, hx2, hx3, hx4, hx5⟩, _⟩, ⟨⟨hy0, hy1, hy2, hy3⟩, _⟩, ⟨⟨hz0, hz1, hz2⟩, _⟩, ⟨⟨ht0, ht1, ht2⟩, _⟩, ⟨hs0, hs1, hs2⟩, _⟩ := hx; go_simp; try with_reducible rfl
    refine tkH 20 ?_ hS (fun wx hx => ?_) ?_; rotate_left
    · obtain ⟨⟨⟨hx0, hx1, hx2, hx3, hx4, hx5⟩, _⟩, ⟨⟨hy0, hy1, hy2, hy3⟩, _⟩, ⟨⟨hz0, hz1, hz2⟩, _⟩, ⟨⟨ht0, ht1, ht2⟩, _⟩, ⟨hs0, hs1, hs2⟩, _⟩ := hx; go_simp; try with_reducible rfl
    refine tkH 21 ?_ hS (fun wx hx => ?_) ?_; rotate_left
    · obtain ⟨⟨⟨hx0, hx1, hx2, hx3, hx4, hx5⟩, _⟩, ⟨⟨hy0, hy1, hy2, hy3⟩, _⟩, ⟨⟨hz0, hz1, hz2⟩, _⟩, ⟨⟨ht0, ht1, ht2⟩, _⟩, ⟨hs0, hs1, hs2⟩, _⟩ := hx; go_simp; try with_reducible rfl
    refine tkH 22 ?_ hS (fun wx hx => ?_) ?_; rotate_left
    · obtain ⟨⟨⟨hx0, hx1, hx2, hx3, hx4, hx5⟩, _⟩, ⟨⟨hy0, hy1, hy2, hy3⟩, _⟩, ⟨⟨hz0, hz1, hz2⟩, _⟩, ⟨⟨ht0, ht1, ht2⟩, _⟩, ⟨hs0, hs1, hs2⟩, _⟩ := hx; go_simp; try with_reducible rfl
    refine tkH 23 ?_ hS (fun wx hx => ?_) ?_; rotate_left
    · obtain ⟨⟨⟨hx0, hx1, hx2, hx3, hx4, hx5⟩, _⟩, ⟨⟨hy0, hy1, hy2, hy3⟩, _⟩, ⟨⟨hz0, hz1, hz2⟩, _⟩, ⟨⟨ht0, ht1, ht2⟩, _⟩, ⟨hs0, hs1, hs2⟩, _⟩ := hx; go_simp; try with_reducible rfl
    refine tkH 24 ?_ hS (fun wx hx => ?_) ?_; rotate_left
    · obtain ⟨⟨⟨hx0, hx1, hx2, hx3, hx4, hx5⟩, _⟩, ⟨⟨hy0, hy1, hy2, hy3⟩, _⟩, ⟨⟨hz0, hz1, hz2⟩, _⟩, ⟨⟨ht0, ht1, ht2⟩, _⟩, ⟨hs0, hs1, hs2⟩, _⟩ := hx; go_simp; try with_reducible rfl
    refine tkH 25 ?_ hS (fun wx hx => ?_) ?_; rotate_left
    · obtain ⟨⟨⟨hx0, hx1, hx2, hx3, hx4, hx5⟩, _⟩, ⟨⟨hy0, hy1, hy2, hy3⟩, _⟩, ⟨⟨hz0, hz1, hz2⟩, _⟩, ⟨⟨ht0, ht1, ht2⟩, _⟩, ⟨hs0, hs1, hs2⟩, _⟩ := hx; go_simp; try with_reducible rfl
    refine tkH 28 ?_ hS (fun wx hx => ?_) ?_; rotate_left
    · obtain ⟨⟨⟨hx0, hx1, hx2, hx3, hx4, hx5⟩, _⟩, ⟨⟨hy0, hy1, hy2, hy3⟩, _⟩, ⟨⟨hz0, hz1, hz2⟩, _⟩, ⟨⟨ht0, ht1, ht2⟩, _⟩, ⟨hs0, hs1, hs2⟩, _⟩ := hx; go_simp; try with_reducible rfl
    refine tkH 29 ?_ hS (fun wx hx => ?_) ?_; rotate_left
    · obtain ⟨⟨⟨hx0, hx1, hx2, hx3, hx4, hx5⟩, _⟩, ⟨⟨hy0, hy1, hy2, hy3⟩, _⟩, ⟨⟨hz0, hz1, hz2⟩, _⟩, ⟨⟨ht0, ht1, ht2⟩, _⟩, ⟨hs0, hs1, hs2⟩, _⟩ := hx; go_simp; try with_reducible rfl
    refine tkH 30 ?_ hS (fun wx hx => ?_) ?_; rotate_left
    · obtain ⟨⟨⟨hx0, hx1, hx2, hx3, hx4, hx5⟩, _⟩, ⟨⟨hy0, hy1, hy2, hy3⟩, _⟩, ⟨⟨hz0, hz1, hz2⟩, _⟩, ⟨⟨ht0, ht1, ht2⟩, _⟩, ⟨hs0, hs1, hs2⟩, _⟩ := hx; go_simp; try with_reducible rfl
    refine tkH 33 ?_ hS (fun wx hx => ?_) ?_; rotate_left
    · obtain ⟨⟨⟨hx0, hx1, hx2, hx3, hx4, hx5⟩, _⟩, ⟨⟨hy0, hy1, hy2, hy3⟩, _⟩, ⟨⟨hz0, hz1, hz2⟩, _⟩, ⟨⟨ht0, ht1, ht2⟩, _⟩, ⟨hs0, hs1, hs2⟩, _⟩ := hx; go_simp; try with_reducible rfl
    refine rdH 26 (fun K hK => ?_)
    go_simp
    go_wp2_with fail
    refine (implLinks_is _ 0 R.length (rowL R) v 0 (zz1 + 1) _ H8.out.row (by have := HR.out; omega) HLB.out).mono ?_
    rintro e z1 ⟨rfl, q⟩
    have hS1 := And.intro (hS.1.later q) (And.intro (hS.2.1.later q) (And.intro (hS.2.2.1.later q) (And.intro (hS.2.2.2.1.later q) (hS.2.2.2.2.later q))))
    have H1 := hidA (H8.out.later q)
    clear q H8 hS
    have H8 := H1
    clear H1
    go_wp2_with fail
    refine hK.out _ _ hS1 (fun hS => ?_)
    clear hK K
    clear hS1
    refine tkH 27 ?_ hS (fun wx hx => ?_) ?_; rotate_left
    · obtain ⟨⟨⟨hx0, hx1, hx2, hx3, hx4, hx5⟩, _⟩, ⟨⟨hy0, hy1, hy2, hy3⟩, _⟩, ⟨⟨hz0, hz1, hz2⟩, _⟩, ⟨⟨ht0, ht1, ht2⟩, _⟩, ⟨hs0, hs1, hs2⟩, _⟩ := hx; go_simp; try with_reducible rfl
    refine rdH 31 (fun K hK => ?_)
    go_simp
    go_wp2_with fail
    refine (implLinks_is _ 0 m V v 0 zz1 _ H8.out.view (by have := HR.out; omega) HLA.out).mono ?_
    rintro e z2 ⟨rfl, q⟩
    have hS1 := And.intro (hS.1.later q) (And.intro (hS.2.1.later q) (And.intro (hS.2.2.1.later q) (And.intro (hS.2.2.2.1.later q) (hS.2.2.2.2.later q))))
    have H1 := hidA (H8.out.later q)
    clear q H8 hS
    have H8 := H1
    clear H1
    go_wp2_with fail
    refine hK.out _ _ hS1 (fun hS => ?_)
    clear hK K
    clear hS1
    refine tkH 32 ?_ hS (fun wx hx => ?_) ?_; rotate_left
    · obtain ⟨⟨⟨hx0, hx1, hx2, hx3, hx4, hx5⟩, _⟩, ⟨⟨hy0, hy1, hy2, hy3⟩, _⟩, ⟨⟨hz0, hz1, hz2⟩, _⟩, ⟨⟨ht0, ht1, ht2⟩, _⟩, ⟨hs0, hs1, hs2⟩, _⟩ := hx; go_simp; try with_reducible rfl
    refine tkH 34 ?_ hS (fun wx hx => ?_) ?_; rotate_left
    · obtain ⟨⟨⟨hx0, hx1, hx2, hx3, hx4, hx5⟩, _⟩, ⟨⟨hy0, hy1, hy2, hy3⟩, _⟩, ⟨⟨hz0, hz1, hz2⟩, _⟩, ⟨⟨ht0, ht1, ht2⟩, _⟩, ⟨hs0, hs1, hs2⟩, _⟩ := hx; go_simp; try with_reducible rfl
    refine tkH 35 ?_ hS (fun wx hx => ?_) ?_; rotate_left
    · obtain ⟨⟨⟨hx0, hx1, hx2, hx3, hx4, hx5⟩, _⟩, ⟨⟨hy0, hy1, hy2, hy3⟩, _⟩, ⟨⟨hz0, hz1, hz2⟩, _⟩, ⟨⟨ht0, ht1, ht2⟩, _⟩, ⟨hs0, hs1, hs2⟩, _⟩ := hx; go_simp; try with_reducible rfl
    refine tkH 36 ?_ hS (fun wx hx => ?_) ?_; rotate_left
    · obtain ⟨⟨⟨hx0, hx1, hx2, hx3, hx4, hx5⟩, _⟩, ⟨⟨hy0, hy1, hy2, hy3⟩, _⟩, ⟨⟨hz0, hz1, hz2⟩, _⟩, ⟨⟨ht0, ht1, ht2⟩, _⟩, ⟨hs0, hs1, hs2⟩, _⟩ := hx; go_simp; try with_reducible rfl
    refine tkH 37 ?_ hS (fun wx hx => ?_) ?_; rotate_left
    · obtain ⟨⟨⟨hx0, hx1, hx2, hx3, hx4, hx5⟩, _⟩, ⟨⟨hy0, hy1, hy2, hy3⟩, _⟩, ⟨⟨hz0, hz1, hz2⟩, _⟩, ⟨⟨ht0, ht1, ht2⟩, _⟩, ⟨hs0, hs1, hs2⟩, _⟩ := hx; go_simp; try with_reducible rfl
    refine tkH 38 ?_ hS (fun wx hx => ?_) ?_; rotate_left
    · obtain ⟨⟨⟨hx0, hx1, hx2, hx3, hx4, hx5⟩, _⟩, ⟨⟨hy0, hy1, hy2, hy3⟩, _⟩, ⟨⟨hz0, hz1, hz2⟩, _⟩, ⟨⟨ht0, ht1, ht2⟩, _⟩, ⟨hs0, hs1, hs2⟩, _⟩ := hx; go_simp; try with_reducible rfl
    refine tkH 39 ?_ hS (fun wx hx => ?_) ?_; rotate_left
    · obtain ⟨⟨⟨hx0, hx1, hx2, hx3, hx4, hx5⟩, _⟩, ⟨⟨hy0, hy1, hy2, hy3⟩, _⟩, ⟨⟨hz0, hz1, hz2⟩, _⟩, ⟨⟨ht0, ht1, ht2⟩, _⟩, ⟨hs0, hs1, hs2⟩, _⟩ := hx; go_simp; try with_reducible rfl
    refine rdH 40 (fun K hK => ?_)
    go_simp
    go_wp2_with fail
    refine (implFs_is _ 0 R.length (rowL R) _ H8.out.row (by have := HR.out; omega)).mono ?_
    rintro e zz ⟨rfl, q⟩
    rw [HFR.out]
    have hS1 := And.intro (hS.1.later q) (And.intro (hS.2.1.later q) (And.intro (hS.2.2.1.later q) (And.intro (hS.2.2.2.1.later q) (hS.2.2.2.2.later q))))
    have BB := hidA (H8.out.below.trans (q.mono H8.out.below.size))
    clear q H8 hS
    go_wp2_with fail
    refine hK.out _ _ hS1 (fun hS => ?_)
    clear hK K
    clear hS1
    refine tkH 41 ?_ hS (fun wx hx => ?_) ?_; rotate_left
    · obtain ⟨⟨⟨hx0, hx1, hx2, hx3, hx4, hx5⟩, _⟩, ⟨⟨hy0, hy1, hy2, hy3⟩, _⟩, ⟨⟨hz0, hz1, hz2⟩, _⟩, ⟨⟨ht0, ht1, ht2⟩, _⟩, ⟨hs0, hs1, hs2⟩, _⟩ := hx; go_simp; try with_reducible rfl
    refine tkH 42 ?_ hS (fun wx hx => ?_) ?_; rotate_left
    · obtain ⟨⟨⟨hx0, hx1, hx2, hx3, hx4, hx5⟩, _⟩, ⟨⟨hy0, hy1, hy2, hy3⟩, _⟩, ⟨⟨hz0, hz1, hz2⟩, _⟩, ⟨⟨ht0, ht1, ht2⟩, _⟩, ⟨hs0, hs1, hs2⟩, _⟩ := hx; go_simp; try with_reducible rfl
    refine tkH 43 ?_ hS (fun wx hx => ?_) ?_; rotate_left
    · obtain ⟨⟨⟨hx0, hx1, hx2, hx3, hx4, hx5⟩, _⟩, ⟨⟨hy0, hy1, hy2, hy3⟩, _⟩, ⟨⟨hz0, hz1, hz2⟩, _⟩, ⟨⟨ht0, ht1, ht2⟩, _⟩, ⟨hs0, hs1, hs2⟩, _⟩ := hx; go_simp; try with_reducible rfl
    clear hS
    refine wpAnyH_done (by kernel_rfl) ?_ _
    go_simp
    go_wp2
    go_ret
    exact ⟨by simp, BB.out⟩
  have d4 : (kd != 4) = true := bne_iff_ne.2 h4
  have d5 : (kd != 5) = true := bne_iff_ne.2 h5
  clear h4 h5
  obtain ⟨⟨o0, o1, o2, o3, o4, o5⟩, _⟩ := OB.out
  go_wp2_with fail
  clear o0 o1 o2 o3 o4 o5
  refine wp_region_held_drew (S := fun Z : World => Mid6 Z w1.heap.size d n) (by kernel_rfl) ⟨_, _, _, _, OB.out.later (Below.refl _ _).drew⟩ (fun hS => ?_)
  have HM := hidA (OP.out.later (Below.refl _ _).drew)
  clear OP OB d4 d5
  generalize w2.drew = z0 at hS HM ⊢
  refine tkH 0 ?_ hS (fun wx hx => ?_) ?_; rotate_left
  · obtain ⟨k0, k3, k4, k5, ⟨hx0, hx1, hx2, hx3, hx4, hx5⟩, _⟩ := hx; go_simp; try with_reducible rfl
  refine tkH 3 ?_ hS (fun wx hx => ?_) ?_; rotate_left
  · obtain ⟨k0, k3, k4, k5, ⟨hx0, hx1, hx2, hx3, hx4, hx5⟩, _⟩ := hx; go_simp; try with_reducible rfl
  refine tkH 4 ?_ hS (fun wx hx => ?_) ?_; rotate_left
  · obtain ⟨k0, k3, k4, k5, ⟨hx0, hx1, hx2, hx3, hx4, hx5⟩, _⟩ := hx; go_simp; try with_reducible rfl
  refine tkH 5 ?_ hS (fun wx hx => ?_) ?_; rotate_left
  · obtain ⟨k0, k3, k4, k5, ⟨hx0, hx1, hx2, hx3, hx4, hx5⟩, _⟩ := hx; go_simp; try with_reducible rfl
  refine tkH 6 ?_ hS (fun wx hx => ?_) ?_; rotate_left
  · obtain ⟨k0, k3, k4, k5, ⟨hx0, hx1, hx2, hx3, hx4, hx5⟩, _⟩ := hx; go_simp; try with_reducible rfl
  refine tkH 7 ?_ hS (fun wx hx => ?_) ?_; rotate_left
  · obtain ⟨k0, k3, k4, k5, ⟨hx0, hx1, hx2, hx3, hx4, hx5⟩, _⟩ := hx; go_simp; try with_reducible rfl
  refine tkH 9 ?_ hS (fun wx hx => ?_) ?_; rotate_left
  · obtain ⟨k0, k3, k4, k5, ⟨hx0, hx1, hx2, hx3, hx4, hx5⟩, _⟩ := hx; go_simp; try with_reducible rfl
  refine rdH 1 (fun K hK => ?_)
  go_simp
  go_wp2_with fail
  refine (lwAt_any _ _ _ _ 1 2 HM.out.code hl (by omega) (by omega)).mono ?_
  rintro e z1 ⟨r1, rfl, hr1, jq, hz⟩
  have hS1 : Mid6 z1 w1.heap.size d n := by rw [hz]; exact hS.later (below_drewN (Below.refl _ _) jq)
  have HM1 := hidA (HM.out.later (below_drewN (Below.refl _ _) jq))
  rw [← hz] at HM1
  clear hS HM hz
  have HM := HM1
  clear HM1
  go_wp2_with fail
  refine hK.out _ _ hS1 (fun hS => ?_)
  clear hK K
  clear hS1
  obtain rfl | rfl : r1 = 0 ∨ r1 = 1 := by omega
  focus
    have hwk : IntKind.i64.wrap 4 = 4 := wrapM_i64 _ (by omega) (by omega)
    refine tkH 2 ?_ hS (fun wx hx => ?_) ?_; rotate_left
    · obtain ⟨k0, k3, k4, k5, ⟨hx0, hx1, hx2, hx3, hx4, hx5⟩, _⟩ := hx; go_simp; try with_reducible rfl
    refine rdH 8 (fun K hK => ?_)
    go_simp
    go_wp2_with fail
    refine (lwAt_any _ _ _ _ 2 3 HM.out.code hl (by omega) (by omega)).mono ?_
    rintro e z2 ⟨r8, rfl, hr8, jq, hz⟩
    have hS1 : Mid6 z2 w1.heap.size d n := by rw [hz]; exact hS.later (below_drewN (Below.refl _ _) jq)
    have HM1 := hidA (HM.out.later (below_drewN (Below.refl _ _) jq))
    rw [← hz] at HM1
    clear hS HM hz
    have HM := HM1
    clear HM1
    go_wp2_with fail
    refine hK.out _ _ hS1 (fun hS => ?_)
    clear hK K
    clear hS1
    refine rdH 10 (fun K hK => ?_)
    go_simp
    go_wp2_with fail
    refine (lwAt_any _ _ _ _ 3 4 HM.out.code hl (by omega) (by omega)).mono ?_
    rintro e z3 ⟨r10, rfl, hr10, jq, hz⟩
    have hS1 : Mid6 z3 w1.heap.size d n := by rw [hz]; exact hS.later (below_drewN (Below.refl _ _) jq)
    have HM1 := hidA (HM.out.later (below_drewN (Below.refl _ _) jq))
    rw [← hz] at HM1
    clear hS HM hz
    have HM := HM1
    clear HM1
    go_wp2_with fail
    refine hK.out _ _ hS1 (fun hS => ?_)
    clear hK K
    clear hS1
    refine tkH 11 ?_ hS (fun wx hx => ?_) ?_; rotate_left
    · obtain ⟨k0, k3, k4, k5, ⟨hx0, hx1, hx2, hx3, hx4, hx5⟩, _⟩ := hx; go_simp; try with_reducible rfl
    refine rdH 12 (fun K hK => ?_)
    refine step_storeO rfl _ _ rfl w1.heap.size _ _ _ _ _ _ rfl rfl HM.out.box (by kernel_rfl) ?_
    have KB := hidA (HM.out.box.blk (.int .i64 4) (.int .i64 d) (.int .i64 n) (.int .i64 r8) (.int .i64 r10) (.int .i64 0))
    have HX := hidA (And.intro KB.out (And.intro (HM.out.row.rowF HM.out.far (#[.int .i64 4, .int .i64 d, .int .i64 n, .int .i64 r8, .int .i64 r10, .int .i64 0])) (below_row HM.out.below HM.out.new (#[.int .i64 4, .int .i64 d, .int .i64 n, .int .i64 r8, .int .i64 r10, .int .i64 0]))))
    have hS1 : Mid6 (z3.setRow w1.heap.size #[.int .i64 4, .int .i64 d, .int .i64 n, .int .i64 r8, .int .i64 r10, .int .i64 0]) w1.heap.size d n := ⟨_, _, _, _, KB.out⟩
    clear hS HM KB
    refine hK.out _ _ hS1 (fun hS => ?_)
    clear hK K
    clear hS1 hS hwk
    refine wpAnyH_done (by kernel_rfl) ?_ _
    go_simp
    generalize z3.setRow w1.heap.size #[.int .i64 4, .int .i64 d, .int .i64 n, .int .i64 r8, .int .i64 r10, .int .i64 0] = x2 at HX ⊢
    obtain ⟨c, r, vl, R, hans, hR⟩ := ApAns.get m V 4 d n r8 r10 0
    have HR : Hid (R.length ≤ 200) := hR
    have HSP : Hid (∀ u X, Row X 0 2 m V u → Calls Tryz.prog 9 #[u, .agg #[.int .i64 4, .int .i64 d, .int .i64 n, .int .i64 r8, .int .i64 r10, .int .i64 0]] X (ResFs X c r vl R)) := fun u X hu => specApplyFs_is u 0 m V 4 d n r8 r10 0 c r vl R X hu (by omega) hans
    have HIM : Hid (∀ u X, Row X 0 2 m V u → Calls Tryz.prog 8 #[u, .agg #[.int .i64 4, .int .i64 d, .int .i64 n, .int .i64 r8, .int .i64 r10, .int .i64 0]] X (ResFs X c r vl R)) := fun u X hu => implApplyFs_is u 0 m V 4 d n r8 r10 0 c r vl R X hu (by omega) hans
    have HA : Hid (ApAns m V 4 d n r8 r10 0 c r vl R) := hans
    clear hans hR
    obtain ⟨⟨o0, o1, o2, o3, o4, o5⟩, _⟩ := HX.out.1
    go_wp2_with fail
    refine (HIM.out _ _ HX.out.2.1).mono ?_
    rintro e w3 ⟨pa, pb, rfl, hrow, _, q3⟩
    have E3 : Hid (EnvA w w1.heap.size w3.heap.size c r vl 4 d n r8 r10 0 m V (.slice ao m cp) R (.slice pa R.length pb) (w3.alloc (.cells #[.int .i64 c, .int .i64 r, .int .i64 vl, .slice pa R.length pb] 30))) :=
      ⟨(HX.out.2.2.trans (q3.mono HX.out.2.2.size)).alloc (Nat.le_trans HX.out.2.2.size q3.size) _, (HX.out.2.1.later q3).alloc _, (HX.out.1.later q3).alloc _, BlkF.new w3 _ _ _ _ _, (hrow.mono (Nat.zero_le _)).alloc _⟩
    clear hrow q3 HX HIM o0 o1 o2 o3 o4 o5
    obtain ⟨⟨o0, o1, o2, o3, o4, o5⟩, _⟩ := E3.out.op
    obtain ⟨⟨p0, p1, p2, p3⟩, _⟩ := E3.out.got
    by_cases hcr : c = 0 ∧ r = 0
    case neg =>
      have dcr : ((c != 0) = true) ∨ ((c != 0) = false ∧ (r != 0) = true) := by
        by_cases q : c = 0
        · exact Or.inr ⟨by rw [q]; rfl, bne_iff_ne.2 (fun e => hcr ⟨q, e⟩)⟩
        · exact Or.inl (bne_iff_ne.2 q)
      clear HA hcr
      rcases dcr with d1 | ⟨d1, d2⟩
      rotate_left
      rotate_left
      all_goals
        go_wp2_with fail
        refine (HSP.out _ _ E3.out.view).mono ?_
        rintro e w5 ⟨sa, sb, rfl, _, _, q5⟩
        have E5 := hidA (And.intro ((E3.out.later q5).later (below_alloc w5 (.cells #[.int .i64 c, .int .i64 r, .int .i64 vl, .slice sa R.length sb] 30))) (BlkF.new w5 (.int .i64 c) (.int .i64 r) (.int .i64 vl) (.slice sa R.length sb) 30))
        clear q5 E3 HSP
        clear o0 o1 o2 o3 o4 o5 p0 p1 p2 p3
        obtain ⟨⟨o0, o1, o2, o3, o4, o5⟩, _⟩ := E5.out.1.op
        obtain ⟨⟨p0, p1, p2, p3⟩, _⟩ := E5.out.1.got
        obtain ⟨⟨y0, y1, y2, y3⟩, _⟩ := E5.out.2
        have BB := hidA E5.out.1.below
        clear E5
        go_wp2
        go_ret
        exact ⟨by simp, BB.out⟩
    obtain ⟨rfl, rfl⟩ := hcr
    clear HSP
    have HZ : Hid (fsF m V = 0 ∧ opF 4 d n r8 r10 0 = 0 ∧ applyP (listOf V m) 4 d n r8 r10 0 = (0, vl, R)) := by
      rcases HA.out with ⟨q, q', _⟩ | ⟨_, q, q', _⟩ | ⟨q1, q2, _, q3⟩
      · exact absurd q'.symm q
      · exact absurd q'.symm q
      · exact ⟨q1, q2, q3⟩
    clear HA
    have hgv := good_of_pairs (fsF_zero HZ.out.1).1
    have hgr := hgv.applyOp HZ.out.2.1
    have hwr := wholeB_apply hgv (fsF_zero HZ.out.1).2 HZ.out.2.1
    rw [HZ.out.2.2] at hgr hwr
    have HG := hidA hgr
    have HFR := hidA (fs_of_whole hgr hwr)
    have HW := hidA ((whole_iff hgv).1 (fsF_zero HZ.out.1).2)
    have HB := hidA (op_bounds HZ.out.2.1)
    have HGV := hidA hgv
    clear hgv hgr hwr
    have hmp := moves_plain HGV.out HW.out (kd := 4) (by omega) HZ.out.2.1 (by rw [HZ.out.2.2])
    rw [HZ.out.2.2] at hmp
    obtain ⟨v, hv1, hv2, hv3, hv4, hv5⟩ := hmp
    obtain ⟨zo, hzo⟩ : ∃ zo, lookF R (kE d n) = (false, zo) := ⟨_, pair_of hv4 rfl⟩
    have HC1 : Hid (ChAns m V d n 0 v true) := Or.inr (Or.inr ⟨(fsF_zero HZ.out.1).1, ⟨HB.out.2.1, HB.out.2.2.1⟩, rfl, hv1⟩)
    have HC2 := hidA (ch_of HG.out HB.out.2.2.2.1 HB.out.2.2.2.2 hv3)
    have HC3 := hidA (ch_of HG.out HB.out.2.1 HB.out.2.2.1 hzo)
    obtain ⟨zz1, hz1⟩ : ∃ z : Int, z = linkN (listOf V m) v := ⟨_, rfl⟩
    have hzb := linkN_len (listOf V m) v
    rw [listOf_length] at hzb
    have HLA : Hid (LnkAns m V v 0 zz1) := Or.inr (Or.inr ⟨(fsF_zero HZ.out.1).1, hv2, rfl, hz1⟩)
    have HLB : Hid (LnkAns R.length (rowL R) v 0 zz1) := Or.inr (Or.inr ⟨pairs_of_good HG.out, hv2, rfl, by rw [listOf_rowL, hz1]; simpa using congrArg (fun q : Nat => (q : Int)) hv5.symm⟩)
    have hwr0 : IntKind.i64.wrap zz1 = zz1 := wrapM_i64 _ (by omega) (by omega)
    have hwr1 : IntKind.i64.wrap zz1 = zz1 := wrapM_i64 _ (by omega) (by omega)
    have hwr2 : IntKind.i64.wrap (zz1 + 0) = zz1 := by rw [Int.add_zero]; exact hwr1
    clear hv1 hv2 hv3 hv4 hv5 hzo hz1
    have fi1 := field_int1
    go_wp2_with fail
    refine (implChild_is _ 0 m V d n 0 v true _ E3.out.view (by omega) HC1.out).mono ?_
    rintro e w5 ⟨rfl, q⟩
    have E5 := hidA (And.intro ((E3.out.later q).later (below_alloc w5 (.cells #[.int .i64 0, .bool true, .int .i64 v] 35))) (Blk3.new w5 (.int .i64 0) (.bool true) (.int .i64 v) 35))
    clear q E3
    clear o0 o1 o2 o3 o4 o5 p0 p1 p2 p3
    obtain ⟨⟨o0, o1, o2, o3, o4, o5⟩, _⟩ := E5.out.1.op
    obtain ⟨⟨p0, p1, p2, p3⟩, _⟩ := E5.out.1.got
    go_wp2_with fail
    refine (implChild_is _ 0 R.length (rowL R) r8 r10 0 v true _ E5.out.1.row (by have := HR.out; omega) HC2.out).mono ?_
    rintro e w6 ⟨rfl, q⟩
    have E6 := hidA (And.intro ((E5.out.1.later q).later (below_alloc w6 (.cells #[.int .i64 0, .bool true, .int .i64 v] 35))) (And.intro ((E5.out.2.later q).later (below_alloc w6 (.cells #[.int .i64 0, .bool true, .int .i64 v] 35))) (Blk3.new w6 (.int .i64 0) (.bool true) (.int .i64 v) 35)))
    clear q E5
    clear o0 o1 o2 o3 o4 o5 p0 p1 p2 p3
    obtain ⟨⟨o0, o1, o2, o3, o4, o5⟩, _⟩ := E6.out.1.op
    obtain ⟨⟨p0, p1, p2, p3⟩, _⟩ := E6.out.1.got
    go_wp2_with fail
    refine (implChild_is _ 0 R.length (rowL R) d n 0 zo false _ E6.out.1.row (by have := HR.out; omega) HC3.out).mono ?_
    rintro e w8 ⟨rfl, q⟩
    have E8 := hidA (And.intro ((E6.out.1.later q).later (below_alloc w8 (.cells #[.int .i64 0, .bool false, .int .i64 zo] 35))) (And.intro ((E6.out.2.1.later q).later (below_alloc w8 (.cells #[.int .i64 0, .bool false, .int .i64 zo] 35))) (And.intro ((E6.out.2.2.later q).later (below_alloc w8 (.cells #[.int .i64 0, .bool false, .int .i64 zo] 35))) (Blk3.new w8 (.int .i64 0) (.bool false) (.int .i64 zo) 35))))
    clear q E6
    clear o0 o1 o2 o3 o4 o5 p0 p1 p2 p3
    obtain ⟨⟨o0, o1, o2, o3, o4, o5⟩, _⟩ := E8.out.1.op
    obtain ⟨⟨p0, p1, p2, p3⟩, _⟩ := E8.out.1.got
    go_wp2_with fail
    refine wp_region_held_drew (S := fun Z : World => Blk6 Z w1.heap.size (.int .i64 4) (.int .i64 d) (.int .i64 n) (.int .i64 r8) (.int .i64 r10) (.int .i64 0) ∧ BlkF Z w3.heap.size (.int .i64 0) (.int .i64 0) (.int .i64 vl) (.slice pa R.length pb) ∧ Blk3 Z w5.heap.size (.int .i64 0) (.bool true) (.int .i64 v) ∧ Blk3 Z w6.heap.size (.int .i64 0) (.bool true) (.int .i64 v) ∧ Blk3 Z w8.heap.size (.int .i64 0) (.bool false) (.int .i64 zo)) (by kernel_rfl) ⟨E8.out.1.op.later (Below.refl _ _).drew, E8.out.1.got.later (Below.refl _ _).drew, E8.out.2.1.later (Below.refl _ _).drew, E8.out.2.2.1.later (Below.refl _ _).drew, E8.out.2.2.2.later (Below.refl _ _).drew⟩ (fun hS => ?_)
    have H8 := hidA (E8.out.1.later (Below.refl _ _).drew)
    clear E8
    clear o0 o1 o2 o3 o4 o5 p0 p1 p2 p3
    generalize (w8.alloc (.cells #[.int .i64 0, .bool false, .int .i64 zo] 35)).drew = z0 at hS H8 ⊢
    refine tkH 0 ?_ hS (fun wx hx => ?_) ?_; rotate_left
    · obtain ⟨⟨⟨hx0, hx1, hx2, hx3, hx4, hx5⟩, _⟩, ⟨⟨hy0, hy1, hy2, hy3⟩, _⟩, ⟨⟨hz0, hz1, hz2⟩, _⟩, ⟨⟨ht0, ht1, ht2⟩, _⟩, ⟨hs0, hs1, hs2⟩, _⟩ := hx; go_simp; try with_reducible rfl
    refine tkH 1 ?_ hS (fun wx hx => ?_) ?_; rotate_left
    · obtain ⟨⟨⟨hx0, hx1, hx2, hx3, hx4, hx5⟩, _⟩, ⟨⟨hy0, hy1, hy2, hy3⟩, _⟩, ⟨⟨hz0, hz1, hz2⟩, _⟩, ⟨⟨ht0, ht1, ht2⟩, _⟩, ⟨hs0, hs1, hs2⟩, _⟩ := hx; go_simp; try with_reducible rfl
    refine tkH 2 ?_ hS (fun wx hx => ?_) ?_; rotate_left
    · obtain ⟨⟨⟨hx0, hx1, hx2, hx3, hx4, hx5⟩, _⟩, ⟨⟨hy0, hy1, hy2, hy3⟩, _⟩, ⟨⟨hz0, hz1, hz2⟩, _⟩, ⟨⟨ht0, ht1, ht2⟩, _⟩, ⟨hs0, hs1, hs2⟩, _⟩ := hx; go_simp; try with_reducible rfl
    refine tkH 3 ?_ hS (fun wx hx => ?_) ?_; rotate_left
    · obtain ⟨⟨⟨hx0, hx1, hx2, hx3, hx4, hx5⟩, _⟩, ⟨⟨hy0, hy1, hy2, hy3⟩, _⟩, ⟨⟨hz0, hz1, hz2⟩, _⟩, ⟨⟨ht0, ht1, ht2⟩, _⟩, ⟨hs0, hs1, hs2⟩, _⟩ := hx; go_simp; try with_reducible rfl
    refine tkH 4 ?_ hS (fun wx hx => ?_) ?_; rotate_left
    · obtain ⟨⟨⟨hx0, hx1, hx2, hx3, hx4, hx5⟩, _⟩, ⟨⟨hy0, hy1, hy2, hy3⟩, _⟩, ⟨⟨hz0, hz1, hz2⟩, _⟩, ⟨⟨ht0, ht1, ht2⟩, _⟩, ⟨hs0, hs1, hs2⟩, _⟩ := hx; go_simp; try with_reducible rfl
    refine tkH 5 ?_ hS (fun wx hx => ?_) ?_; rotate_left
    · obtain ⟨⟨⟨hx0, hx1, hx2, hx3, hx4, hx5⟩, _⟩, ⟨⟨hy0, hy1, hy2, hy3⟩, _⟩, ⟨⟨hz0, hz1, hz2⟩, _⟩, ⟨⟨ht0, ht1, ht2⟩, _⟩, ⟨hs0, hs1, hs2⟩, _⟩ := hx; go_simp; try with_reducible rfl
    refine tkH 6 ?_ hS (fun wx hx => ?_) ?_; rotate_left
    · obtain ⟨⟨⟨hx0, hx1, hx2, hx3, hx4, hx5⟩, _⟩, ⟨⟨hy0, hy1, hy2, hy3⟩, _⟩, ⟨⟨hz0, hz1, hz2⟩, _⟩, ⟨⟨ht0, ht1, ht2⟩, _⟩, ⟨hs0, hs1, hs2⟩, _⟩ := hx; go_simp; try with_reducible rfl
    refine tkH 7 ?_ hS (fun wx hx => ?_) ?_; rotate_left
    · obtain ⟨⟨⟨hx0, hx1, hx2, hx3, hx4, hx5⟩, _⟩, ⟨⟨hy0, hy1, hy2, hy3⟩, _⟩, ⟨⟨hz0, hz1, hz2⟩, _⟩, ⟨⟨ht0, ht1, ht2⟩, _⟩, ⟨hs0, hs1, hs2⟩, _⟩ := hx; go_simp; try with_reducible rfl
    refine tkH 8 ?_ hS (fun wx hx => ?_) ?_; rotate_left
    · obtain ⟨⟨⟨hx0, hx1, hx2, hx3, hx4, hx5⟩, _⟩, ⟨⟨hy0, hy1, hy2, hy3⟩, _⟩, ⟨⟨hz0, hz1, hz2⟩, _⟩, ⟨⟨ht0, ht1, ht2⟩, _⟩, ⟨hs0, hs1, hs2⟩, _⟩ := hx; go_simp; try with_reducible rfl
    refine tkH 9 ?_ hS (fun wx hx => ?_) ?_; rotate_left
    · obtain ⟨⟨⟨hx0, hx1, hx2, hx3, hx4, hx5⟩, _⟩, ⟨⟨hy0, hy1, hy2, hy3⟩, _⟩, ⟨⟨hz0, hz1, hz2⟩, _⟩, ⟨⟨ht0, ht1, ht2⟩, _⟩, ⟨hs0, hs1, hs2⟩, _⟩ := hx; go_simp; try with_reducible rfl
    refine tkH 10 ?_ hS (fun wx hx => ?_) ?_; rotate_left
    · obtain ⟨⟨⟨hx0, hx1, hx2, hx3, hx4, hx5⟩, _⟩, ⟨⟨hy0, hy1, hy2, hy3⟩, _⟩, ⟨⟨hz0, hz1, hz2⟩, _⟩, ⟨⟨ht0, ht1, ht2⟩, _⟩, ⟨hs0, hs1, hs2⟩, _⟩ := hx; go_simp; try with_reducible rfl
    refine tkH 11 ?_ hS (fun wx hx => ?_) ?_; rotate_left
    · obtain ⟨⟨⟨hx0, hx1, hx2, hx3, hx4, hx5⟩, _⟩, ⟨⟨hy0, hy1, hy2, hy3⟩, _⟩, ⟨⟨hz0, hz1, hz2⟩, _⟩, ⟨⟨ht0, ht1, ht2⟩, _⟩, ⟨hs0, hs1, hs2⟩, _⟩ := hx; go_simp; try with_reducible rfl
    refine tkH 12 ?_ hS (fun wx hx => ?_) ?_; rotate_left
    · obtain ⟨⟨⟨hx0, hx1, hx2, hx3, hx4, hx5⟩, _⟩, ⟨⟨hy0, hy1, hy2, hy3⟩, _⟩, ⟨⟨hz0, hz1, hz2⟩, _⟩, ⟨⟨ht0, ht1, ht2⟩, _⟩, ⟨hs0, hs1, hs2⟩, _⟩ := hx; go_simp; try with_reducible rfl
    refine tkH 13 ?_ hS (fun wx hx => ?_) ?_; rotate_left
    · obtain ⟨⟨⟨hx0, hx1, hx2, hx3, hx4, hx5⟩, _⟩, ⟨⟨hy0, hy1, hy2, hy3⟩, _⟩, ⟨⟨hz0, hz1, hz2⟩, _⟩, ⟨⟨ht0, ht1, ht2⟩, _⟩, ⟨hs0, hs1, hs2⟩, _⟩ := hx; go_simp; try with_reducible rfl
    refine tkH 14 ?_ hS (fun wx hx => ?_) ?_; rotate_left
    · obtain ⟨⟨⟨hx0, hx1, hx2, hx3, hx4, hx5⟩, _⟩, ⟨⟨hy0, hy1, hy2, hy3⟩, _⟩, ⟨⟨hz0, hz1, hz2⟩, _⟩, ⟨⟨ht0, ht1, ht2⟩, _⟩, ⟨hs0, hs1, hs2⟩, _⟩ := hx; go_simp; try with_reducible rfl
    refine tkH 15 ?_ hS (fun wx hx => ?_) ?_; rotate_left
    · obtain ⟨⟨⟨hx0, hx1, hx2, hx3, hx4, hx5⟩, _⟩, ⟨⟨hy0, hy1, hy2, hy3⟩, _⟩, ⟨⟨hz0, hz1, hz2⟩, _⟩, ⟨⟨ht0, ht1, ht2⟩, _⟩, ⟨hs0, hs1, hs2⟩, _⟩ := hx; go_simp; try with_reducible rfl
    refine tkH 16 ?_ hS (fun wx hx => ?_) ?_; rotate_left
    · obtain ⟨⟨⟨hx0, hx1, hx2, hx3, hx4, hx5⟩, _⟩, ⟨⟨hy0, hy1, hy2, hy3⟩, _⟩, ⟨⟨hz0, hz1, hz2⟩, _⟩, ⟨⟨ht0, ht1, ht2⟩, _⟩, ⟨hs0, hs1, hs2⟩, _⟩ := hx; go_simp; try with_reducible rfl
    refine tkH 17 ?_ hS (fun wx hx => ?_) ?_; rotate_left
    · obtain ⟨⟨⟨hx0, hx1, hx2, hx3, hx4, hx5⟩, _⟩, ⟨⟨hy0, hy1, hy2, hy3⟩, _⟩, ⟨⟨hz0, hz1, hz2⟩, _⟩, ⟨⟨ht0, ht1, ht2⟩, _⟩, ⟨hs0, hs1, hs2⟩, _⟩ := hx; go_simp; try with_reducible rfl
    refine tkH 18 ?_ hS (fun wx hx => ?_) ?_; rotate_left
    · obtain ⟨⟨⟨hx0, hx1, hx2, hx3, hx4, hx5⟩, _⟩, ⟨⟨hy0, hy1, hy2, hy3⟩, _⟩, ⟨⟨hz0, hz1, hz2⟩, _⟩, ⟨⟨ht0, ht1, ht2⟩, _⟩, ⟨hs0, hs1, hs2⟩, _⟩ := hx; go_simp; try with_reducible rfl
    refine tkH 19 ?_ hS (fun wx hx => ?_) ?_; rotate_left
    · obtain ⟨⟨⟨hx0, hx1, hx2, hx3, hx4, hx5⟩, _⟩, ⟨⟨hy0, hy1, hy2, hy3⟩, _⟩, ⟨⟨hz0, hz1, hz2⟩, _⟩, ⟨⟨ht0, ht1, ht2⟩, _⟩, ⟨hs0, hs1, hs2⟩, _⟩ := hx; go_simp; try with_reducible rfl
    refine tkH 20 ?_ hS (fun wx hx => ?_) ?_; rotate_left
    · obtain ⟨⟨⟨hx0, hx1, hx2, hx3, hx4, hx5⟩, _⟩, ⟨⟨hy0, hy1, hy2, hy3⟩, _⟩, ⟨⟨hz0, hz1, hz2⟩, _⟩, ⟨⟨ht0, ht1, ht2⟩, _⟩, ⟨hs0, hs1, hs2⟩, _⟩ := hx; go_simp; try with_reducible rfl
    refine tkH 21 ?_ hS (fun wx hx => ?_) ?_; rotate_left
    · obtain ⟨⟨⟨hx0, hx1, hx2, hx3, hx4, hx5⟩, _⟩, ⟨⟨hy0, hy1, hy2, hy3⟩, _⟩, ⟨⟨hz0, hz1, hz2⟩, _⟩, ⟨⟨ht0, ht1, ht2⟩, _⟩, ⟨hs0, hs1, hs2⟩, _⟩ := hx; go_simp; try with_reducible rfl
    refine tkH 22 ?_ hS (fun wx hx => ?_) ?_; rotate_left
    · obtain ⟨⟨⟨hx0, hx1, hx2, hx3, hx4, hx5⟩, _⟩, ⟨⟨hy0, hy1, hy2, hy3⟩, _⟩, ⟨⟨hz0, hz1, hz2⟩, _⟩, ⟨⟨ht0, ht1, ht2⟩, _⟩, ⟨hs0, hs1, hs2⟩, _⟩ := hx; go_simp; try with_reducible rfl
    refine tkH 23 ?_ hS (fun wx hx => ?_) ?_; rotate_left
    · obtain ⟨⟨⟨hx0, hx1, hx2, hx3, hx4, hx5⟩, _⟩, ⟨⟨hy0, hy1, hy2, hy3⟩, _⟩, ⟨⟨hz0, hz1, hz2⟩, _⟩, ⟨⟨ht0, ht1, ht2⟩, _⟩, ⟨hs0, hs1, hs2⟩, _⟩ := hx; go_simp; try with_reducible rfl
    refine tkH 24 ?_ hS (fun wx hx => ?_) ?_; rotate_left
    · obtain ⟨⟨⟨hx0, hx1, hx2, hx3, hx4, hx5⟩, _⟩, ⟨⟨hy0, hy1, hy2, hy3⟩, _⟩, ⟨⟨hz0, hz1, hz2⟩, _⟩, ⟨⟨ht0, ht1, ht2⟩, _⟩, ⟨hs0, hs1, hs2⟩, _⟩ := hx; go_simp; try with_reducible rfl
    refine tkH 25 ?_ hS (fun wx hx => ?_) ?_; rotate_left
    · obtain ⟨⟨⟨hx0, hx1, hx2, hx3, hx4, hx5⟩, _⟩, ⟨⟨hy0, hy1, hy2, hy3⟩, _⟩, ⟨⟨hz0, hz1, hz2⟩, _⟩, ⟨⟨ht0, ht1, ht2⟩, _⟩, ⟨hs0, hs1, hs2⟩, _⟩ := hx; go_simp; try with_reducible rfl
    refine tkH 28 ?_ hS (fun wx hx => ?_) ?_; rotate_left
    · obtain ⟨⟨⟨hx0, hx1, hx2, hx3, hx4, hx5⟩, _⟩, ⟨⟨hy0, hy1, hy2, hy3⟩, _⟩, ⟨⟨hz0, hz1, hz2⟩, _⟩, ⟨⟨ht0, ht1, ht2⟩, _⟩, ⟨hs0, hs1, hs2⟩, _⟩ := hx; go_simp; try with_reducible rfl
    refine tkH 29 ?_ hS (fun wx hx => ?_) ?_; rotate_left
    · obtain ⟨⟨⟨hx0, hx1, hx2, hx3, hx4, hx5⟩, _⟩, ⟨⟨hy0, hy1, hy2, hy3⟩, _⟩, ⟨⟨hz0, hz1, hz2⟩, _⟩, ⟨⟨ht0, ht1, ht2⟩, _⟩, ⟨hs0, hs1, hs2⟩, _⟩ := hx; go_simp; try with_reducible rfl
    refine tkH 30 ?_ hS (fun wx hx => ?_) ?_; rotate_left
    · obtain ⟨⟨⟨hx0, hx1, hx2, hx3, hx4, hx5⟩, _⟩, ⟨⟨hy0, hy1, hy2, hy3⟩, _⟩, ⟨⟨hz0, hz1, hz2⟩, _⟩, ⟨⟨ht0, ht1, ht2⟩, _⟩, ⟨hs0, hs1, hs2⟩, _⟩ := hx; go_simp; try with_reducible rfl
    refine tkH 33 ?_ hS (fun wx hx => ?_) ?_; rotate_left
    · obtain ⟨⟨⟨hx0, hx1, hx2, hx3, hx4, hx5⟩, _⟩, ⟨⟨hy0, hy1, hy2, hy3⟩, _⟩, ⟨⟨hz0, hz1, hz2⟩, _⟩, ⟨⟨ht0, ht1, ht2⟩, _⟩, ⟨hs0, hs1, hs2⟩, _⟩ := hx; go_simp; try with_reducible rfl
    refine rdH 26 (fun K hK => ?_)
    go_simp
    go_wp2_with fail
    refine (implLinks_is _ 0 R.length (rowL R) v 0 zz1 _ H8.out.row (by have := HR.out; omega) HLB.out).mono ?_
  rotate_left
  focus
    have hwk : IntKind.i64.wrap 5 = 5 := wrapM_i64 _ (by omega) (by omega)
    refine tkH 2 ?_ hS (fun wx hx => ?_) ?_; rotate_left
    · obtain ⟨k0, k3, k4, k5, ⟨hx0, hx1, hx2, hx3, hx4, hx5⟩, _⟩ := hx; go_simp; try with_reducible rfl
    refine rdH 8 (fun K hK => ?_)
    go_simp
    go_wp2_with fail
    refine (lwAt_any _ _ _ _ 2 3 HM.out.code hl (by omega) (by omega)).mono ?_
    rintro e z2 ⟨r8, rfl, hr8, jq, hz⟩
    have hS1 : Mid6 z2 w1.heap.size d n := by rw [hz]; exact hS.later (below_drewN (Below.refl _ _) jq)
    have HM1 := hidA (HM.out.later (below_drewN (Below.refl _ _) jq))
    rw [← hz] at HM1
    clear hS HM hz
    have HM := HM1
    clear HM1
    go_wp2_with fail
    refine hK.out _ _ hS1 (fun hS => ?_)
    clear hK K
    clear hS1
    refine rdH 10 (fun K hK => ?_)
    go_simp
    go_wp2_with fail
    refine (lwAt_any _ _ _ _ 3 4 HM.out.code hl (by omega) (by omega)).mono ?_
    rintro e z3 ⟨r10, rfl, hr10, jq, hz⟩
    have hS1 : Mid6 z3 w1.heap.size d n := by rw [hz]; exact hS.later (below_drewN (Below.refl _ _) jq)
    have HM1 := hidA (HM.out.later (below_drewN (Below.refl _ _) jq))
    rw [← hz] at HM1
    clear hS HM hz
    have HM := HM1
    clear HM1
    go_wp2_with fail
    refine hK.out _ _ hS1 (fun hS => ?_)
    clear hK K
    clear hS1
    refine tkH 11 ?_ hS (fun wx hx => ?_) ?_; rotate_left
    · obtain ⟨k0, k3, k4, k5, ⟨hx0, hx1, hx2, hx3, hx4, hx5⟩, _⟩ := hx; go_simp; try with_reducible rfl
    refine rdH 12 (fun K hK => ?_)
    refine step_storeO rfl _ _ rfl w1.heap.size _ _ _ _ _ _ rfl rfl HM.out.box (by kernel_rfl) ?_
    have KB := hidA (HM.out.box.blk (.int .i64 5) (.int .i64 d) (.int .i64 n) (.int .i64 r8) (.int .i64 r10) (.int .i64 0))
    have HX := hidA (And.intro KB.out (And.intro (HM.out.row.rowF HM.out.far (#[.int .i64 5, .int .i64 d, .int .i64 n, .int .i64 r8, .int .i64 r10, .int .i64 0])) (below_row HM.out.below HM.out.new (#[.int .i64 5, .int .i64 d, .int .i64 n, .int .i64 r8, .int .i64 r10, .int .i64 0]))))
    have hS1 : Mid6 (z3.setRow w1.heap.size #[.int .i64 5, .int .i64 d, .int .i64 n, .int .i64 r8, .int .i64 r10, .int .i64 0]) w1.heap.size d n := ⟨_, _, _, _, KB.out⟩
    clear hS HM KB
    refine hK.out _ _ hS1 (fun hS => ?_)
    clear hK K
    clear hS1 hS hwk
    refine wpAnyH_done (by kernel_rfl) ?_ _
    go_simp
    generalize z3.setRow w1.heap.size #[.int .i64 5, .int .i64 d, .int .i64 n, .int .i64 r8, .int .i64 r10, .int .i64 0] = x2 at HX ⊢
    obtain ⟨c, r, vl, R, hans, hR⟩ := ApAns.get m V 5 d n r8 r10 0
    have HR : Hid (R.length ≤ 200) := hR
    have HSP : Hid (∀ u X, Row X 0 2 m V u → Calls Tryz.prog 9 #[u, .agg #[.int .i64 5, .int .i64 d, .int .i64 n, .int .i64 r8, .int .i64 r10, .int .i64 0]] X (ResFs X c r vl R)) := fun u X hu => specApplyFs_is u 0 m V 5 d n r8 r10 0 c r vl R X hu (by omega) hans
    have HIM : Hid (∀ u X, Row X 0 2 m V u → Calls Tryz.prog 8 #[u, .agg #[.int .i64 5, .int .i64 d, .int .i64 n, .int .i64 r8, .int .i64 r10, .int .i64 0]] X (ResFs X c r vl R)) := fun u X hu => implApplyFs_is u 0 m V 5 d n r8 r10 0 c r vl R X hu (by omega) hans
    have HA : Hid (ApAns m V 5 d n r8 r10 0 c r vl R) := hans
    clear hans hR
    obtain ⟨⟨o0, o1, o2, o3, o4, o5⟩, _⟩ := HX.out.1
    go_wp2_with fail
    refine (HIM.out _ _ HX.out.2.1).mono ?_
    rintro e w3 ⟨pa, pb, rfl, hrow, _, q3⟩
    have E3 : Hid (EnvA w w1.heap.size w3.heap.size c r vl 5 d n r8 r10 0 m V (.slice ao m cp) R (.slice pa R.length pb) (w3.alloc (.cells #[.int .i64 c, .int .i64 r, .int .i64 vl, .slice pa R.length pb] 30))) :=
      ⟨(HX.out.2.2.trans (q3.mono HX.out.2.2.size)).alloc (Nat.le_trans HX.out.2.2.size q3.size) _, (HX.out.2.1.later q3).alloc _, (HX.out.1.later q3).alloc _, BlkF.new w3 _ _ _ _ _, (hrow.mono (Nat.zero_le _)).alloc _⟩
    clear hrow q3 HX HIM o0 o1 o2 o3 o4 o5
    obtain ⟨⟨o0, o1, o2, o3, o4, o5⟩, _⟩ := E3.out.op
    obtain ⟨⟨p0, p1, p2, p3⟩, _⟩ := E3.out.got
    by_cases hcr : c = 0 ∧ r = 0
    case neg =>
      have dcr : ((c != 0) = true) ∨ ((c != 0) = false ∧ (r != 0) = true) := by
        by_cases q : c = 0
        · exact Or.inr ⟨by rw [q]; rfl, bne_iff_ne.2 (fun e => hcr ⟨q, e⟩)⟩
        · exact Or.inl (bne_iff_ne.2 q)
      clear HA hcr
      rcases dcr with d1 | ⟨d1, d2⟩
      rotate_left
      rotate_left
      all_goals
        go_wp2_with fail
        refine (HSP.out _ _ E3.out.view).mono ?_
        rintro e w5 ⟨sa, sb, rfl, _, _, q5⟩
        have E5 := hidA (And.intro ((E3.out.later q5).later (below_alloc w5 (.cells #[.int .i64 c, .int .i64 r, .int .i64 vl, .slice sa R.length sb] 30))) (BlkF.new w5 (.int .i64 c) (.int .i64 r) (.int .i64 vl) (.slice sa R.length sb) 30))
        clear q5 E3 HSP
        clear o0 o1 o2 o3 o4 o5 p0 p1 p2 p3
        obtain ⟨⟨o0, o1, o2, o3, o4, o5⟩, _⟩ := E5.out.1.op
        obtain ⟨⟨p0, p1, p2, p3⟩, _⟩ := E5.out.1.got
        obtain ⟨⟨y0, y1, y2, y3⟩, _⟩ := E5.out.2
        have BB := hidA E5.out.1.below
        clear E5
        go_wp2
        go_ret
        exact ⟨by simp, BB.out⟩
    obtain ⟨rfl, rfl⟩ := hcr
    clear HSP
    have HZ : Hid (fsF m V = 0 ∧ opF 5 d n r8 r10 0 = 0 ∧ applyP (listOf V m) 5 d n r8 r10 0 = (0, vl, R)) := by
      rcases HA.out with ⟨q, q', _⟩ | ⟨_, q, q', _⟩ | ⟨q1, q2, _, q3⟩
      · exact absurd q'.symm q
      · exact absurd q'.symm q
      · exact ⟨q1, q2, q3⟩
    clear HA
    have hgv := good_of_pairs (fsF_zero HZ.out.1).1
    have hgr := hgv.applyOp HZ.out.2.1
    have hwr := wholeB_apply hgv (fsF_zero HZ.out.1).2 HZ.out.2.1
    rw [HZ.out.2.2] at hgr hwr
    have HG := hidA hgr
    have HFR := hidA (fs_of_whole hgr hwr)
    have HW := hidA ((whole_iff hgv).1 (fsF_zero HZ.out.1).2)
    have HB := hidA (op_bounds HZ.out.2.1)
    have HGV := hidA hgv
    clear hgv hgr hwr
    have hmp := moves_plain HGV.out HW.out (kd := 5) (by omega) HZ.out.2.1 (by rw [HZ.out.2.2])
    rw [HZ.out.2.2] at hmp
    obtain ⟨v, hv1, hv2, hv3, hv4, hv5⟩ := hmp
    obtain ⟨zo, hzo⟩ : ∃ zo, lookF R (kE d n) = (true, zo) := ⟨_, pair_of hv4 rfl⟩
    have HC1 : Hid (ChAns m V d n 0 v true) := Or.inr (Or.inr ⟨(fsF_zero HZ.out.1).1, ⟨HB.out.2.1, HB.out.2.2.1⟩, rfl, hv1⟩)
    have HC2 := hidA (ch_of HG.out HB.out.2.2.2.1 HB.out.2.2.2.2 hv3)
    have HC3 := hidA (ch_of HG.out HB.out.2.1 HB.out.2.2.1 hzo)
    obtain ⟨zz1, hz1⟩ : ∃ z : Int, z = linkN (listOf V m) v := ⟨_, rfl⟩
    have hzb := linkN_len (listOf V m) v
    rw [listOf_length] at hzb
    have HLA : Hid (LnkAns m V v 0 zz1) := Or.inr (Or.inr ⟨(fsF_zero HZ.out.1).1, hv2, rfl, hz1⟩)
    have HLB : Hid (LnkAns R.length (rowL R) v 0 (zz1 + 1)) := Or.inr (Or.inr ⟨pairs_of_good HG.out, hv2, rfl, by rw [listOf_rowL, hz1]; simpa using congrArg (fun q : Nat => (q : Int)) hv5.symm⟩)
    have hwr0 : IntKind.i64.wrap (zz1 + 1) = (zz1 + 1) := wrapM_i64 _ (by omega) (by omega)
    have hwr1 : IntKind.i64.wrap zz1 = zz1 := wrapM_i64 _ (by omega) (by omega)
    have hwr2 : IntKind.i64.wrap (zz1 + 0) = zz1 := by rw [Int.add_zero]; exact hwr1
    clear hv1 hv2 hv3 hv4 hv5 hzo hz1
    have fi1 := field_int1
    go_wp2_with fail
    refine (implChild_is _ 0 m V d n 0 v true _ E3.out.view (by omega) HC1.out).mono ?_
    rintro e w5 ⟨rfl, q⟩
    have E5 := hidA (And.intro ((E3.out.later q).later (below_alloc w5 (.cells #[.int .i64 0, .bool true, .int .i64 v] 35))) (Blk3.new w5 (.int .i64 0) (.bool true) (.int .i64 v) 35))
    clear q E3
    clear o0 o1 o2 o3 o4 o5 p0 p1 p2 p3
    obtain ⟨⟨o0, o1, o2, o3, o4, o5⟩, _⟩ := E5.out.1.op
    obtain ⟨⟨p0, p1, p2, p3⟩, _⟩ := E5.out.1.got
    go_wp2_with fail
    refine (implChild_is _ 0 R.length (rowL R) r8 r10 0 v true _ E5.out.1.row (by have := HR.out; omega) HC2.out).mono ?_
    rintro e w6 ⟨rfl, q⟩
    have E6 := hidA (And.intro ((E5.out.1.later q).later (below_alloc w6 (.cells #[.int .i64 0, .bool true, .int .i64 v] 35))) (And.intro ((E5.out.2.later q).later (below_alloc w6 (.cells #[.int .i64 0, .bool true, .int .i64 v] 35))) (Blk3.new w6 (.int .i64 0) (.bool true) (.int .i64 v) 35)))
    clear q E5
    clear o0 o1 o2 o3 o4 o5 p0 p1 p2 p3
    obtain ⟨⟨o0, o1, o2, o3, o4, o5⟩, _⟩ := E6.out.1.op
    obtain ⟨⟨p0, p1, p2, p3⟩, _⟩ := E6.out.1.got
    go_wp2_with fail
    refine (implChild_is _ 0 R.length (rowL R) d n 0 zo true _ E6.out.1.row (by have := HR.out; omega) HC3.out).mono ?_
    rintro e w8 ⟨rfl, q⟩
    have E8 := hidA (And.intro ((E6.out.1.later q).later (below_alloc w8 (.cells #[.int .i64 0, .bool true, .int .i64 zo] 35))) (And.intro ((E6.out.2.1.later q).later (below_alloc w8 (.cells #[.int .i64 0, .bool true, .int .i64 zo] 35))) (And.intro ((E6.out.2.2.later q).later (below_alloc w8 (.cells #[.int .i64 0, .bool true, .int .i64 zo] 35))) (Blk3.new w8 (.int .i64 0) (.bool true) (.int .i64 zo) 35))))
    clear q E6
    clear o0 o1 o2 o3 o4 o5 p0 p1 p2 p3
    obtain ⟨⟨o0, o1, o2, o3, o4, o5⟩, _⟩ := E8.out.1.op
    obtain ⟨⟨p0, p1, p2, p3⟩, _⟩ := E8.out.1.got
    go_wp2_with fail
    refine wp_region_held_drew (S := fun Z : World => Blk6 Z w1.heap.size (.int .i64 5) (.int .i64 d) (.int .i64 n) (.int .i64 r8) (.int .i64 r10) (.int .i64 0) ∧ BlkF Z w3.heap.size (.int .i64 0) (.int .i64 0) (.int .i64 vl) (.slice pa R.length pb) ∧ Blk3 Z w5.heap.size (.int .i64 0) (.bool true) (.int .i64 v) ∧ Blk3 Z w6.heap.size (.int .i64 0) (.bool true) (.int .i64 v) ∧ Blk3 Z w8.heap.size (.int .i64 0) (.bool true) (.int .i64 zo)) (by kernel_rfl) ⟨E8.out.1.op.later (Below.refl _ _).drew, E8.out.1.got.later (Below.refl _ _).drew, E8.out.2.1.later (Below.refl _ _).drew, E8.out.2.2.1.later (Below.refl _ _).drew, E8.out.2.2.2.later (Below.refl _ _).drew⟩ (fun hS => ?_)
    have H8 := hidA (E8.out.1.later (Below.refl _ _).drew)
    clear E8
    clear o0 o1 o2 o3 o4 o5 p0 p1 p2 p3
    generalize (w8.alloc (.cells #[.int .i64 0, .bool true, .int .i64 zo] 35)).drew = z0 at hS H8 ⊢
    refine tkH 0 ?_ hS (fun wx hx => ?_) ?_; rotate_left
    · obtain ⟨⟨⟨hx0, hx1, hx2, hx3, hx4, hx5⟩, _⟩, ⟨⟨hy0, hy1, hy2, hy3⟩, _⟩, ⟨⟨hz0, hz1, hz2⟩, _⟩, ⟨⟨ht0, ht1, ht2⟩, _⟩, ⟨hs0, hs1, hs2⟩, _⟩ := hx; go_simp; try with_reducible rfl
    refine tkH 1 ?_ hS (fun wx hx => ?_) ?_; rotate_left
    · obtain ⟨⟨⟨hx0, hx1, hx2, hx3, hx4, hx5⟩, _⟩, ⟨⟨hy0, hy1, hy2, hy3⟩, _⟩, ⟨⟨hz0, hz1, hz2⟩, _⟩, ⟨⟨ht0, ht1, ht2⟩, _⟩, ⟨hs0, hs1, hs2⟩, _⟩ := hx; go_simp; try with_reducible rfl
    refine tkH 2 ?_ hS (fun wx hx => ?_) ?_; rotate_left
    · obtain ⟨⟨⟨hx0, hx1, hx2, hx3, hx4, hx5⟩, _⟩, ⟨⟨hy0, hy1, hy2, hy3⟩, _⟩, ⟨⟨hz0, hz1, hz2⟩, _⟩, ⟨⟨ht0, ht1, ht2⟩, _⟩, ⟨hs0, hs1, hs2⟩, _⟩ := hx; go_simp; try with_reducible rfl
    refine tkH 3 ?_ hS (fun wx hx => ?_) ?_; rotate_left
    · obtain ⟨⟨⟨hx0, hx1, hx2, hx3, hx4, hx5⟩, _⟩, ⟨⟨hy0, hy1, hy2, hy3⟩, _⟩, ⟨⟨hz0, hz1, hz2⟩, _⟩, ⟨⟨ht0, ht1, ht2⟩, _⟩, ⟨hs0, hs1, hs2⟩, _⟩ := hx; go_simp; try with_reducible rfl
    refine tkH 4 ?_ hS (fun wx hx => ?_) ?_; rotate_left
    · obtain ⟨⟨⟨hx0, hx1, hx2, hx3, hx4, hx5⟩, _⟩, ⟨⟨hy0, hy1, hy2, hy3⟩, _⟩, ⟨⟨hz0, hz1, hz2⟩, _⟩, ⟨⟨ht0, ht1, ht2⟩, _⟩, ⟨hs0, hs1, hs2⟩, _⟩ := hx; go_simp; try with_reducible rfl
    refine tkH 5 ?_ hS (fun wx hx => ?_) ?_; rotate_left
    · obtain ⟨⟨⟨hx0, hx1, hx2, hx3, hx4, hx5⟩, _⟩, ⟨⟨hy0, hy1, hy2, hy3⟩, _⟩, ⟨⟨hz0, hz1, hz2⟩, _⟩, ⟨⟨ht0, ht1, ht2⟩, _⟩, ⟨hs0, hs1, hs2⟩, _⟩ := hx; go_simp; try with_reducible rfl
    refine tkH 6 ?_ hS (fun wx hx => ?_) ?_; rotate_left
    · obtain ⟨⟨⟨hx0, hx1, hx2, hx3, hx4, hx5⟩, _⟩, ⟨⟨hy0, hy1, hy2, hy3⟩, _⟩, ⟨⟨hz0, hz1, hz2⟩, _⟩, ⟨⟨ht0, ht1, ht2⟩, _⟩, ⟨hs0, hs1, hs2⟩, _⟩ := hx; go_simp; try with_reducible rfl
    refine tkH 7 ?_ hS (fun wx hx => ?_) ?_; rotate_left
    · obtain ⟨⟨⟨hx0, hx1, hx2, hx3, hx4, hx5⟩, _⟩, ⟨⟨hy0, hy1, hy2, hy3⟩, _⟩, ⟨⟨hz0, hz1, hz2⟩, _⟩, ⟨⟨ht0, ht1, ht2⟩, _⟩, ⟨hs0, hs1, hs2⟩, _⟩ := hx; go_simp; try with_reducible rfl
    refine tkH 8 ?_ hS (fun wx hx => ?_) ?_; rotate_left
    · obtain ⟨⟨⟨hx0, hx1, hx2, hx3, hx4, hx5⟩, _⟩, ⟨⟨hy0, hy1, hy2, hy3⟩, _⟩, ⟨⟨hz0, hz1, hz2⟩, _⟩, ⟨⟨ht0, ht1, ht2⟩, _⟩, ⟨hs0, hs1, hs2⟩, _⟩ := hx; go_simp; try with_reducible rfl
    refine tkH 9 ?_ hS (fun wx hx => ?_) ?_; rotate_left
    · obtain ⟨⟨⟨hx0, hx1, hx2, hx3, hx4, hx5⟩, _⟩, ⟨⟨hy0, hy1, hy2, hy3⟩, _⟩, ⟨⟨hz0, hz1, hz2⟩, _⟩, ⟨⟨ht0, ht1, ht2⟩, _⟩, ⟨hs0, hs1, hs2⟩, _⟩ := hx; go_simp; try with_reducible rfl
    refine tkH 10 ?_ hS (fun wx hx => ?_) ?_; rotate_left
    · obtain ⟨⟨⟨hx0, hx1, hx2, hx3, hx4, hx5⟩, _⟩, ⟨⟨hy0, hy1, hy2, hy3⟩, _⟩, ⟨⟨hz0, hz1, hz2⟩, _⟩, ⟨⟨ht0, ht1, ht2⟩, _⟩, ⟨hs0, hs1, hs2⟩, _⟩ := hx; go_simp; try with_reducible rfl
    refine tkH 11 ?_ hS (fun wx hx => ?_) ?_; rotate_left
    · obtain ⟨⟨⟨hx0, hx1, hx2, hx3, hx4, hx5⟩, _⟩, ⟨⟨hy0, hy1, hy2, hy3⟩, _⟩, ⟨⟨hz0, hz1, hz2⟩, _⟩, ⟨⟨ht0, ht1, ht2⟩, _⟩, ⟨hs0, hs1, hs2⟩, _⟩ := hx; go_simp; try with_reducible rfl
    refine tkH 12 ?_ hS (fun wx hx => ?_) ?_; rotate_left
    · obtain ⟨⟨⟨hx0, hx1, hx2, hx3, hx4, hx5⟩, _⟩, ⟨⟨hy0, hy1, hy2, hy3⟩, _⟩, ⟨⟨hz0, hz1, hz2⟩, _⟩, ⟨⟨ht0, ht1, ht2⟩, _⟩, ⟨hs0, hs1, hs2⟩, _⟩ := hx; go_simp; try with_reducible rfl
    refine tkH 13 ?_ hS (fun wx hx => ?_) ?_; rotate_left
    · obtain ⟨⟨⟨hx0, hx1, hx2, hx3, hx4, hx5⟩, _⟩, ⟨⟨hy0, hy1, hy2, hy3⟩, _⟩, ⟨⟨hz0, hz1, hz2⟩, _⟩, ⟨⟨ht0, ht1, ht2⟩, _⟩, ⟨hs0, hs1, hs2⟩, _⟩ := hx; go_simp; try with_reducible rfl
    refine tkH 14 ?_ hS (fun wx hx => ?_) ?_; rotate_left
    · obtain ⟨⟨⟨hx0, hx1, hx2, hx3, hx4, hx5⟩, _⟩, ⟨⟨hy0, hy1, hy2, hy3⟩, _⟩, ⟨⟨hz0, hz1, hz2⟩, _⟩, ⟨⟨ht0, ht1, ht2⟩, _⟩, ⟨hs0, hs1, hs2⟩, _⟩ := hx; go_simp; try with_reducible rfl
    refine tkH 15 ?_ hS (fun wx hx => ?_) ?_; rotate_left
    · obtain ⟨⟨⟨hx0, hx1, hx2, hx3, hx4, hx5⟩, _⟩, ⟨⟨hy0, hy1, hy2, hy3⟩, _⟩, ⟨⟨hz0, hz1, hz2⟩, _⟩, ⟨⟨ht0, ht1, ht2⟩, _⟩, ⟨hs0, hs1, hs2⟩, _⟩ := hx; go_simp; try with_reducible rfl
    refine tkH 16 ?_ hS (fun wx hx => ?_) ?_; rotate_left
    · obtain ⟨⟨⟨hx0, hx1, hx2, hx3, hx4, hx5⟩, _⟩, ⟨⟨hy0, hy1, hy2, hy3⟩, _⟩, ⟨⟨hz0, hz1, hz2⟩, _⟩, ⟨⟨ht0, ht1, ht2⟩, _⟩, ⟨hs0, hs1, hs2⟩, _⟩ := hx; go_simp; try with_reducible rfl
    refine tkH 17 ?_ hS (fun wx hx => ?_) ?_; rotate_left
    · obtain ⟨⟨⟨hx0, hx1, hx2, hx3, hx4, hx5⟩, _⟩, ⟨⟨hy0, hy1, hy2, hy3⟩, _⟩, ⟨⟨hz0, hz1, hz2⟩, _⟩, ⟨⟨ht0, ht1, ht2⟩, _⟩, ⟨hs0, hs1, hs2⟩, _⟩ := hx; go_simp; try with_reducible rfl
    refine tkH 18 ?_ hS (fun wx hx => ?_) ?_; rotate_left
    · obtain ⟨⟨⟨hx0, hx1, hx2, hx3, hx4, hx5⟩, _⟩, ⟨⟨hy0, hy1, hy2, hy3⟩, _⟩, ⟨⟨hz0, hz1, hz2⟩, _⟩, ⟨⟨ht0, ht1, ht2⟩, _⟩, ⟨hs0, hs1, hs2⟩, _⟩ := hx; go_simp; try with_reducible rfl
    refine tkH 19 ?_ hS (fun wx hx => ?_) ?_; rotate_left
    · obtain ⟨⟨⟨hx0, hx1, hx2, hx3, hx4, hx5⟩, _⟩, ⟨⟨hy0, hy1, hy2, hy3⟩, _⟩, ⟨⟨hz0, hz1, hz2⟩, _⟩, ⟨⟨ht0, ht1, ht2⟩, _⟩, ⟨hs0, hs1, hs2⟩, _⟩ := hx; go_simp; try with_reducible rfl
    refine tkH 20 ?_ hS (fun wx hx => ?_) ?_; rotate_left
    · obtain ⟨⟨⟨hx0, hx1, hx2, hx3, hx4, hx5⟩, _⟩, ⟨⟨hy0, hy1, hy2, hy3⟩, _⟩, ⟨⟨hz0, hz1, hz2⟩, _⟩, ⟨⟨ht0, ht1, ht2⟩, _⟩, ⟨hs0, hs1, hs2⟩, _⟩ := hx; go_simp; try with_reducible rfl
    refine tkH 21 ?_ hS (fun wx hx => ?_) ?_; rotate_left
    · obtain ⟨⟨⟨hx0, hx1, hx2, hx3, hx4, hx5⟩, _⟩, ⟨⟨hy0, hy1, hy2, hy3⟩, _⟩, ⟨⟨hz0, hz1, hz2⟩, _⟩, ⟨⟨ht0, ht1, ht2⟩, _⟩, ⟨hs0, hs1, hs2⟩, _⟩ := hx; go_simp; try with_reducible rfl
    refine tkH 22 ?_ hS (fun wx hx => ?_) ?_; rotate_left
    · obtain ⟨⟨⟨hx0, hx1, hx2, hx3, hx4, hx5⟩, _⟩, ⟨⟨hy0, hy1, hy2, hy3⟩, _⟩, ⟨⟨hz0, hz1, hz2⟩, _⟩, ⟨⟨ht0, ht1, ht2⟩, _⟩, ⟨hs0, hs1, hs2⟩, _⟩ := hx; go_simp; try with_reducible rfl
    refine tkH 23 ?_ hS (fun wx hx => ?_) ?_; rotate_left
    · obtain ⟨⟨⟨hx0, hx1, hx2, hx3, hx4, hx5⟩, _⟩, ⟨⟨hy0, hy1, hy2, hy3⟩, _⟩, ⟨⟨hz0, hz1, hz2⟩, _⟩, ⟨⟨ht0, ht1, ht2⟩, _⟩, ⟨hs0, hs1, hs2⟩, _⟩ := hx; go_simp; try with_reducible rfl
    refine tkH 24 ?_ hS (fun wx hx => ?_) ?_; rotate_left
    · obtain ⟨⟨⟨hx0, hx1, hx2, hx3, hx4, hx5⟩, _⟩, ⟨⟨hy0, hy1, hy2, hy3⟩, _⟩, ⟨⟨hz0, hz1, hz2⟩, _⟩, ⟨⟨ht0, ht1, ht2⟩, _⟩, ⟨hs0, hs1, hs2⟩, _⟩ := hx; go_simp; try with_reducible rfl
    refine tkH 25 ?_ hS (fun wx hx => ?_) ?_; rotate_left
    · obtain ⟨⟨⟨hx0, hx1, hx2, hx3, hx4, hx5⟩, _⟩, ⟨⟨hy0, hy1, hy2, hy3⟩, _⟩, ⟨⟨hz0, hz1, hz2⟩, _⟩, ⟨⟨ht0, ht1, ht2⟩, _⟩, ⟨hs0, hs1, hs2⟩, _⟩ := hx; go_simp; try with_reducible rfl
    refine tkH 28 ?_ hS (fun wx hx => ?_) ?_; rotate_left
    · obtain ⟨⟨⟨hx0, hx1, hx2, hx3, hx4, hx5⟩, _⟩, ⟨⟨hy0, hy1, hy2, hy3⟩, _⟩, ⟨⟨hz0, hz1, hz2⟩, _⟩, ⟨⟨ht0, ht1, ht2⟩, _⟩, ⟨hs0, hs1, hs2⟩, _⟩ := hx; go_simp; try with_reducible rfl
    refine tkH 29 ?_ hS (fun wx hx => ?_) ?_; rotate_left
    · obtain ⟨⟨⟨hx0, hx1, hx2, hx3, hx4, hx5⟩, _⟩, ⟨⟨hy0, hy1, hy2, hy3⟩, _⟩, ⟨⟨hz0, hz1, hz2⟩, _⟩, ⟨⟨ht0, ht1, ht2⟩, _⟩, ⟨hs0, hs1, hs2⟩, _⟩ := hx; go_simp; try with_reducible rfl
    refine tkH 30 ?_ hS (fun wx hx => ?_) ?_; rotate_left
    · obtain ⟨⟨⟨hx0, hx1, hx2, hx3, hx4, hx5⟩, _⟩, ⟨⟨hy0, hy1, hy2, hy3⟩, _⟩, ⟨⟨hz0, hz1, hz2⟩, _⟩, ⟨⟨ht0, ht1, ht2⟩, _⟩, ⟨hs0, hs1, hs2⟩, _⟩ := hx; go_simp; try with_reducible rfl
    refine tkH 33 ?_ hS (fun wx hx => ?_) ?_; rotate_left
    · obtain ⟨⟨⟨hx0, hx1, hx2, hx3, hx4, hx5⟩, _⟩, ⟨⟨hy0, hy1, hy2, hy3⟩, _⟩, ⟨⟨hz0, hz1, hz2⟩, _⟩, ⟨⟨ht0, ht1, ht2⟩, _⟩, ⟨hs0, hs1, hs2⟩, _⟩ := hx; go_simp; try with_reducible rfl
    refine rdH 26 (fun K hK => ?_)
    go_simp
    go_wp2_with fail
    refine (implLinks_is _ 0 R.length (rowL R) v 0 (zz1 + 1) _ H8.out.row (by have := HR.out; omega) HLB.out).mono ?_
  rotate_left
  all_goals
    rintro e z1 ⟨rfl, q⟩
    have hS1 := And.intro (hS.1.later q) (And.intro (hS.2.1.later q) (And.intro (hS.2.2.1.later q) (And.intro (hS.2.2.2.1.later q) (hS.2.2.2.2.later q))))
    have H1 := hidA (H8.out.later q)
    clear q H8 hS
    have H8 := H1
    clear H1
    go_wp2_with fail
    refine hK.out _ _ hS1 (fun hS => ?_)
    clear hK K
    clear hS1
    refine tkH 27 ?_ hS (fun wx hx => ?_) ?_; rotate_left
    · obtain ⟨⟨⟨hx0, hx1, hx2, hx3, hx4, hx5⟩, _⟩, ⟨⟨hy0, hy1, hy2, hy3⟩, _⟩, ⟨⟨hz0, hz1, hz2⟩, _⟩, ⟨⟨ht0, ht1, ht2⟩, _⟩, ⟨hs0, hs1, hs2⟩, _⟩ := hx; go_simp; try with_reducible rfl
    refine rdH 31 (fun K hK => ?_)
    go_simp
    go_wp2_with fail
    refine (implLinks_is _ 0 m V v 0 zz1 _ H8.out.view (by have := HR.out; omega) HLA.out).mono ?_
    rintro e z2 ⟨rfl, q⟩
    have hS1 := And.intro (hS.1.later q) (And.intro (hS.2.1.later q) (And.intro (hS.2.2.1.later q) (And.intro (hS.2.2.2.1.later q) (hS.2.2.2.2.later q))))
    have H1 := hidA (H8.out.later q)
    clear q H8 hS
    have H8 := H1
    clear H1
    go_wp2_with fail
    refine hK.out _ _ hS1 (fun hS => ?_)
    clear hK K
    clear hS1
    refine tkH 32 ?_ hS (fun wx hx => ?_) ?_; rotate_left
    · obtain ⟨⟨⟨hx0, hx1, hx2, hx3, hx4, hx5⟩, _⟩, ⟨⟨hy0, hy1, hy2, hy3⟩, _⟩, ⟨⟨hz0, hz1, hz2⟩, _⟩, ⟨⟨ht0, ht1, ht2⟩, _⟩, ⟨hs0, hs1, hs2⟩, _⟩ := hx; go_simp; try with_reducible rfl
    refine tkH 34 ?_ hS (fun wx hx => ?_) ?_; rotate_left
    · obtain ⟨⟨⟨hx0, hx1, hx2, hx3, hx4, hx5⟩, _⟩, ⟨⟨hy0, hy1, hy2, hy3⟩, _⟩, ⟨⟨hz0, hz1, hz2⟩, _⟩, ⟨⟨ht0, ht1, ht2⟩, _⟩, ⟨hs0, hs1, hs2⟩, _⟩ := hx; go_simp; try with_reducible rfl
    refine tkH 35 ?_ hS (fun wx hx => ?_) ?_; rotate_left
    · obtain ⟨⟨⟨hx0, hx1, hx2, hx3, hx4, hx5⟩, _⟩, ⟨⟨hy0, hy1, hy2, hy3⟩, _⟩, ⟨⟨hz0, hz1, hz2⟩, _⟩, ⟨⟨ht0, ht1, ht2⟩, _⟩, ⟨hs0, hs1, hs2⟩, _⟩ := hx; go_simp; try with_reducible rfl
    refine tkH 36 ?_ hS (fun wx hx => ?_) ?_; rotate_left
    · obtain ⟨⟨⟨hx0, hx1, hx2, hx3, hx4, hx5⟩, _⟩, ⟨⟨hy0, hy1, hy2, hy3⟩, _⟩, ⟨⟨hz0, hz1, hz2⟩, _⟩, ⟨⟨ht0, ht1, ht2⟩, _⟩, ⟨hs0, hs1, hs2⟩, _⟩ := hx; go_simp; try with_reducible rfl
    refine tkH 37 ?_ hS (fun wx hx => ?_) ?_; rotate_left
    · obtain ⟨⟨⟨hx0, hx1, hx2, hx3, hx4, hx5⟩, _⟩, ⟨⟨hy0, hy1, hy2, hy3⟩, _⟩, ⟨⟨hz0, hz1, hz2⟩, _⟩, ⟨⟨ht0, ht1, ht2⟩, _⟩, ⟨hs0, hs1, hs2⟩, _⟩ := hx; go_simp; try with_reducible rfl
    refine tkH 38 ?_ hS (fun wx hx => ?_) ?_; rotate_left
    · obtain ⟨⟨⟨hx0, hx1, hx2, hx3, hx4, hx5⟩, _⟩, ⟨⟨hy0, hy1, hy2, hy3⟩, _⟩, ⟨⟨hz0, hz1, hz2⟩, _⟩, ⟨⟨ht0, ht1, ht2⟩, _⟩, ⟨hs0, hs1, hs2⟩, _⟩ := hx; go_simp; try with_reducible rfl
    refine tkH 39 ?_ hS (fun wx hx => ?_) ?_; rotate_left
    · obtain ⟨⟨⟨hx0, hx1, hx2, hx3, hx4, hx5⟩, _⟩, ⟨⟨hy0, hy1, hy2, hy3⟩, _⟩, ⟨⟨hz0, hz1, hz2⟩, _⟩, ⟨⟨ht0, ht1, ht2⟩, _⟩, ⟨hs0, hs1, hs2⟩, _⟩ := hx; go_simp; try with_reducible rfl
    refine rdH 40 (fun K hK => ?_)
    go_simp
    go_wp2_with fail
    refine (implFs_is _ 0 R.length (rowL R) _ H8.out.row (by have := HR.out; omega)).mono ?_
    rintro e zz ⟨rfl, q⟩
    rw [HFR.out]
    have hS1 := And.intro (hS.1.later q) (And.intro (hS.2.1.later q) (And.intro (hS.2.2.1.later q) (And.intro (hS.2.2.2.1.later q) (hS.2.2.2.2.later q))))
    have BB := hidA (H8.out.below.trans (q.mono H8.out.below.size))
    clear q H8 hS
    go_wp2_with fail
    refine hK.out _ _ hS1 (fun hS => ?_)
    clear hK K
    clear hS1
    refine tkH 41 ?_ hS (fun wx hx => ?_) ?_; rotate_left
    · obtain ⟨⟨⟨hx0, hx1, hx2, hx3, hx4, hx5⟩, _⟩, ⟨⟨hy0, hy1, hy2, hy3⟩, _⟩, ⟨⟨hz0, hz1, hz2⟩, _⟩, ⟨⟨ht0, ht1, ht2⟩, _⟩, ⟨hs0, hs1, hs2⟩, _⟩ := hx; go_simp; try with_reducible rfl
    refine tkH 42 ?_ hS (fun wx hx => ?_) ?_; rotate_left
    · obtain ⟨⟨⟨hx0, hx1, hx2, hx3, hx4, hx5⟩, _⟩, ⟨⟨hy0, hy1, hy2, hy3⟩, _⟩, ⟨⟨hz0, hz1, hz2⟩, _⟩, ⟨⟨ht0, ht1, ht2⟩, _⟩, ⟨hs0, hs1, hs2⟩, _⟩ := hx; go_simp; try with_reducible rfl
    refine tkH 43 ?_ hS (fun wx hx => ?_) ?_; rotate_left
    · obtain ⟨⟨⟨hx0, hx1, hx2, hx3, hx4, hx5⟩, _⟩, ⟨⟨hy0, hy1, hy2, hy3⟩, _⟩, ⟨⟨hz0, hz1, hz2⟩, _⟩, ⟨⟨ht0, ht1, ht2⟩, _⟩, ⟨hs0, hs1, hs2⟩, _⟩ := hx; go_simp; try with_reducible rfl
    clear hS
    refine wpAnyH_done (by kernel_rfl) ?_ _
    go_simp
    go_wp2
    go_ret
    exact ⟨by simp, BB.out⟩
end Go.Proofs.YtnchaccgenfhoaaGreat

