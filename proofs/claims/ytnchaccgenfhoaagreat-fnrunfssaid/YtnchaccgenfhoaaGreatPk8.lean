/-
  Own text, merged of PlnC, PlnD, PlnE, PlnF, RnfB, RopB, RopC, AplB, LwaA, RnfC.
-/
import Derived.Test.YtnchaccgenfhoaaGreatPk7
namespace Go.Proofs.YtnchaccgenfhoaaGreat
open Go.RowKit

theorem DrO.fin {w x : World} {b : Nat} {o : Option Addr} {len cap : Nat} {a a0 : Int} (h : DrO w b o len cap a x) (h0 : Src w b o len cap a0) (c0 c1 c2 c3 c4 c5 : Value) :
    Src ((((((x.setCell ⟨w.heap.size, 0, none⟩ c0).setCell ⟨w.heap.size, 1, none⟩ c1).setCell ⟨w.heap.size, 2, none⟩ c2).setCell ⟨w.heap.size, 3, none⟩ c3).setCell ⟨w.heap.size, 4, none⟩ c4).setCell ⟨w.heap.size, 5, none⟩ c5) b o len cap a ∧
      But b w ((((((x.setCell ⟨w.heap.size, 0, none⟩ c0).setCell ⟨w.heap.size, 1, none⟩ c1).setCell ⟨w.heap.size, 2, none⟩ c2).setCell ⟨w.heap.size, 3, none⟩ c3).setCell ⟨w.heap.size, 4, none⟩ c4).setCell ⟨w.heap.size, 5, none⟩ c5) := by
  have l := Nat.le_refl w.heap.size
  have s0 := h.src.setO h0 h.but l 0 c0
  have t0 := h.but.setO l 0 c0
  have s1 := s0.setO h0 t0 l 1 c1
  have t1 := t0.setO l 1 c1
  have s2 := s1.setO h0 t1 l 2 c2
  have t2 := t1.setO l 2 c2
  have s3 := s2.setO h0 t2 l 3 c3
  have t3 := t2.setO l 3 c3
  have s4 := s3.setO h0 t3 l 4 c4
  have t4 := t3.setO l 4 c4
  exact ⟨s4.setO h0 t4 l 5 c5, t4.setO l 5 c5⟩
theorem intsAg (x : World) (g : Nat) (hg : x.heap.size = g) : Ints (x.alloc (.cells #[.int .i64 1, .int .i64 1, .int .i64 2, .int .i64 2, .int .i64 3, .int .i64 4, .int .i64 5, .int .i64 6, .int .i64 6, .int .i64 7, .int .i64 8] 2)) g (.slice (some ⟨g, 0, none⟩) 11 11) [1, 1, 2, 2, 3, 4, 5, 6, 6, 7, 8] := hg ▸ intsA x
theorem intsBg (x : World) (g : Nat) (hg : x.heap.size = g) : Ints (x.alloc (.cells #[.int .i64 0, .int .i64 0, .int .i64 1, .int .i64 2] 2)) g (.slice (some ⟨g, 0, none⟩) 4 4) [0, 0, 1, 2] := hg ▸ intsB x
theorem hidPln {p : Prop} (h : p) : Hid p := h
set_option maxRecDepth 100000 in
set_option maxHeartbeats 4000000 in
theorem l13Draw_any (w : World) (b : Nat) (o : Option Addr) (len cap : Nat) (a : Int) (h : Src w b o len cap a) (ha : a ≤ 900000) (hl : len ≤ 1048576) :
    Calls Tryz.prog 43 #[.pointer (some ⟨b, 0, none⟩)] w fun e w' => ∃ kd d n td tn v a1 : Int, e = .returned (.agg #[.int .i64 kd, .int .i64 d, .int .i64 n, .int .i64 td, .int .i64 tn, .int .i64 v]) ∧ DrawnO kd d n td tn v ∧ a1 ≤ a + 6 ∧ Src w' b o len cap a1 ∧ But b w w' := by
  have H : Hid (Src w b o len cap a) := h
  have hbl := h.lt
  have H0 : Hid (DrO w b o len cap a (w.alloc zeroO)) := ⟨h.alloc _, (But.refl _ _).alloc _, Blk6.new w _ _ _ _ _ _ _⟩
  clear h
  go_enter Tryz.func43, Tryz.ntmps43
  go_wp2_with fail
  refine (l1Pick_any _ b o len cap a _ _ [1, 1, 2, 2, 3, 4, 5, 6, 6, 7, 8] (H0.out.src.alloc _) (by omega) hl (intsAg (w.alloc zeroO) (w.heap.size + 1) (World.size_alloc _ _)) (by omega) (by simp) (by simp)).mono ?_
  rintro e w1 ⟨kd, rfl, mk, hS, hT⟩
  have H1 : Hid (DrO w b o len cap (a + 1) w1) := (H0.out.alloc _).step hbl hS hT
  have mk' := memA mk
  clear hS hT H0 mk
  go_wp2_with fail
  refine (l1Pick_any _ b o len cap (a + 1) _ _ [0, 0, 1, 2] (H1.out.src.alloc _) (by omega) hl (intsBg w1 w1.heap.size rfl) H1.out.src.lt (by simp) (by simp)).mono ?_
  rintro e w2 ⟨d, rfl, md, hS, hT⟩
  have H2 : Hid (DrO w b o len cap (a + 1 + 1) w2) := (H1.out.alloc _).step hbl hS hT
  have md' := memB md
  clear hS hT H1 md
  go_wp2_with fail
  refine (l1Next_any _ b o len cap (a + 1 + 1) 3 H2.out.src (by omega) hl).mono ?_
  rintro e w3 ⟨n, rfl, n0, n1, hS, hT⟩
  have n3 := n1 (by omega)
  have HW3 : Hid (DrO w b o len cap (a + 1 + 1 + 1) w3) := H2.out.step hbl hS hT
  have H3 : Hid (DrB w b o len cap w3.heap.size kd d n 0 0 0 (a + 1 + 1 + 1) (w3.alloc (.cells #[.int .i64 kd, .int .i64 d, .int .i64 n, .int .i64 0, .int .i64 0, .int .i64 0] 26))) := ⟨HW3.out.alloc _, Blk6.new w3 _ _ _ _ _ _ _, HW3.out.res.lt⟩
  clear hS hT H2 n1
  obtain ⟨⟨q0, q1, q2, q3, q4, q5⟩, p0, p1, p2, p3, p4, p5⟩ := HW3.out.res
  have hwl := HW3.out.res.lt
  rcases (show kd = 4 ∨ kd = 5 ∨ kd = 6 ∨ (kd ≠ 4 ∧ kd ≠ 5 ∧ kd ≠ 6) by omega) with rfl | rfl | rfl | ⟨k4, k5, k6⟩
  · obtain ⟨⟨c0, c1, c2, c3, c4, c5⟩, f0, f1, f2, f3, f4, f5⟩ := H3.out.box
    obtain ⟨⟨r0, r1, r2, r3, r4, r5⟩, g0, g1, g2, g3, g4, g5⟩ := H3.out.dr.res
    have hgl := H3.out.lt
    go_wp2_with fail
    refine (l1Pick_any _ b o len cap (a + 1 + 1 + 1) _ _ [0, 0, 1, 2] (H3.out.dr.src.alloc _) (by omega) hl (intsBg (w3.alloc (.cells #[.int .i64 4, .int .i64 d, .int .i64 n, .int .i64 0, .int .i64 0, .int .i64 0] 26)) (w3.heap.size + 1) (World.size_alloc _ _)) (by omega) (by simp) (by simp)).mono ?_
    rintro e w4 ⟨td, rfl, mtd, hS, hT⟩
    have H4 : Hid (DrB w b o len cap w3.heap.size 4 d n 0 0 0 (a + 1 + 1 + 1 + 1) w4) := (H3.out.alloc _).step hbl hS hT
    clear c0 c1 c2 c3 c4 c5 f0 f1 f2 f3 f4 f5 r0 r1 r2 r3 r4 r5 g0 g1 g2 g3 g4 g5
    clear hS hT H3 hgl
    obtain ⟨⟨c0, c1, c2, c3, c4, c5⟩, f0, f1, f2, f3, f4, f5⟩ := H4.out.box
    obtain ⟨⟨r0, r1, r2, r3, r4, r5⟩, g0, g1, g2, g3, g4, g5⟩ := H4.out.dr.res
    have hgl := H4.out.lt
    have H5 : Hid (DrB w b o len cap w3.heap.size 4 d n td 0 0 (a + 1 + 1 + 1 + 1) (w4.setCell ⟨w3.heap.size, 3, none⟩ (.int .i64 td))) := H4.out.put34 H.out td 3 (Or.inl rfl)
    go_wp2_with fail
    refine (l1Next_any _ b o len cap (a + 1 + 1 + 1 + 1) 4 H5.out.dr.src (by omega) hl).mono ?_
    rintro e w5 ⟨tn, rfl, tn0, tn1, hS, hT⟩
    have H6 : Hid (DrB w b o len cap w3.heap.size 4 d n td 0 0 (a + 1 + 1 + 1 + 1 + 1) w5) := H5.out.step hbl hS hT
    clear c0 c1 c2 c3 c4 c5 f0 f1 f2 f3 f4 f5 r0 r1 r2 r3 r4 r5 g0 g1 g2 g3 g4 g5
    clear hS hT H4 H5 hgl
    obtain ⟨⟨c0, c1, c2, c3, c4, c5⟩, f0, f1, f2, f3, f4, f5⟩ := H6.out.box
    obtain ⟨⟨r0, r1, r2, r3, r4, r5⟩, g0, g1, g2, g3, g4, g5⟩ := H6.out.dr.res
    have hgl := H6.out.lt
    have H7 : Hid (DrB w b o len cap w3.heap.size 4 d n td tn 0 (a + 1 + 1 + 1 + 1 + 1) (w5.setCell ⟨w3.heap.size, 4, none⟩ (.int .i64 tn))) := H6.out.put34 H.out tn 4 (Or.inr (Or.inl rfl))
    have tn4 := tn1 (by omega)
    have mtd' := memB mtd
    have HD : Hid (DrawnO 4 d n td tn 0) := ⟨by omega, md', ⟨n0, by omega⟩, Or.inl ⟨by omega, mtd', tn0, by omega⟩, Or.inr rfl⟩
    clear mtd H6
    have KL := hidPln (H7.out.dr.res.putAll (.int .i64 4) (.int .i64 d) (.int .i64 n) (.int .i64 td) (.int .i64 tn) (.int .i64 0))
    obtain ⟨⟨c0, c1, c2, c3, c4, c5⟩, f0, f1, f2, f3, f4, f5⟩ := H7.out.box
    obtain ⟨⟨r0, r1, r2, r3, r4, r5⟩, g0, g1, g2, g3, g4, g5⟩ := H7.out.dr.res
    have hgl := H7.out.lt
    go_wp2
    obtain ⟨⟨e0, e1, e2, e3, e4, e5⟩, _⟩ := KL.out
    refine bodyPost_ret (v := .agg #[.int .i64 4, .int .i64 d, .int .i64 n, .int .i64 td, .int .i64 tn, .int .i64 0]) (by simp [results, Tryz.results43, go_sem, e0, e1, e2, e3, e4, e5]) rfl ?_
    exact ⟨_, _, _, _, _, _, _, rfl, HD.out, by omega, H7.out.dr.fin H.out _ _ _ _ _ _⟩
  · obtain ⟨⟨c0, c1, c2, c3, c4, c5⟩, f0, f1, f2, f3, f4, f5⟩ := H3.out.box
    obtain ⟨⟨r0, r1, r2, r3, r4, r5⟩, g0, g1, g2, g3, g4, g5⟩ := H3.out.dr.res
    have hgl := H3.out.lt
    go_wp2_with fail
    refine (l1Pick_any _ b o len cap (a + 1 + 1 + 1) _ _ [0, 0, 1, 2] (H3.out.dr.src.alloc _) (by omega) hl (intsBg (w3.alloc (.cells #[.int .i64 5, .int .i64 d, .int .i64 n, .int .i64 0, .int .i64 0, .int .i64 0] 26)) (w3.heap.size + 1) (World.size_alloc _ _)) (by omega) (by simp) (by simp)).mono ?_
    rintro e w4 ⟨td, rfl, mtd, hS, hT⟩
    have H4 : Hid (DrB w b o len cap w3.heap.size 5 d n 0 0 0 (a + 1 + 1 + 1 + 1) w4) := (H3.out.alloc _).step hbl hS hT
    clear c0 c1 c2 c3 c4 c5 f0 f1 f2 f3 f4 f5 r0 r1 r2 r3 r4 r5 g0 g1 g2 g3 g4 g5
    clear hS hT H3 hgl
    obtain ⟨⟨c0, c1, c2, c3, c4, c5⟩, f0, f1, f2, f3, f4, f5⟩ := H4.out.box
    obtain ⟨⟨r0, r1, r2, r3, r4, r5⟩, g0, g1, g2, g3, g4, g5⟩ := H4.out.dr.res
    have hgl := H4.out.lt
    have H5 : Hid (DrB w b o len cap w3.heap.size 5 d n td 0 0 (a + 1 + 1 + 1 + 1) (w4.setCell ⟨w3.heap.size, 3, none⟩ (.int .i64 td))) := H4.out.put34 H.out td 3 (Or.inl rfl)
    go_wp2_with fail
    refine (l1Next_any _ b o len cap (a + 1 + 1 + 1 + 1) 4 H5.out.dr.src (by omega) hl).mono ?_
    rintro e w5 ⟨tn, rfl, tn0, tn1, hS, hT⟩
    have H6 : Hid (DrB w b o len cap w3.heap.size 5 d n td 0 0 (a + 1 + 1 + 1 + 1 + 1) w5) := H5.out.step hbl hS hT
    clear c0 c1 c2 c3 c4 c5 f0 f1 f2 f3 f4 f5 r0 r1 r2 r3 r4 r5 g0 g1 g2 g3 g4 g5
    clear hS hT H4 H5 hgl
    obtain ⟨⟨c0, c1, c2, c3, c4, c5⟩, f0, f1, f2, f3, f4, f5⟩ := H6.out.box
    obtain ⟨⟨r0, r1, r2, r3, r4, r5⟩, g0, g1, g2, g3, g4, g5⟩ := H6.out.dr.res
    have hgl := H6.out.lt
    have H7 : Hid (DrB w b o len cap w3.heap.size 5 d n td tn 0 (a + 1 + 1 + 1 + 1 + 1) (w5.setCell ⟨w3.heap.size, 4, none⟩ (.int .i64 tn))) := H6.out.put34 H.out tn 4 (Or.inr (Or.inl rfl))
    have tn4 := tn1 (by omega)
    have mtd' := memB mtd
    have HD : Hid (DrawnO 5 d n td tn 0) := ⟨by omega, md', ⟨n0, by omega⟩, Or.inl ⟨by omega, mtd', tn0, by omega⟩, Or.inr rfl⟩
    clear mtd H6
    have KL := hidPln (H7.out.dr.res.putAll (.int .i64 5) (.int .i64 d) (.int .i64 n) (.int .i64 td) (.int .i64 tn) (.int .i64 0))
    obtain ⟨⟨c0, c1, c2, c3, c4, c5⟩, f0, f1, f2, f3, f4, f5⟩ := H7.out.box
    obtain ⟨⟨r0, r1, r2, r3, r4, r5⟩, g0, g1, g2, g3, g4, g5⟩ := H7.out.dr.res
    have hgl := H7.out.lt
    go_wp2
    obtain ⟨⟨e0, e1, e2, e3, e4, e5⟩, _⟩ := KL.out
    refine bodyPost_ret (v := .agg #[.int .i64 5, .int .i64 d, .int .i64 n, .int .i64 td, .int .i64 tn, .int .i64 0]) (by simp [results, Tryz.results43, go_sem, e0, e1, e2, e3, e4, e5]) rfl ?_
    exact ⟨_, _, _, _, _, _, _, rfl, HD.out, by omega, H7.out.dr.fin H.out _ _ _ _ _ _⟩
  · go_wp2_with fail
    refine (l1Next_any _ b o len cap (a + 1 + 1 + 1) 99 H3.out.dr.src (by omega) hl).mono ?_
    rintro e w4 ⟨v, rfl, v0, v1, hS, hT⟩
    have H4 : Hid (DrB w b o len cap w3.heap.size 6 d n 0 0 0 (a + 1 + 1 + 1 + 1) w4) := H3.out.step hbl hS hT
    have v9 := v1 (by omega)
    clear hS hT H3 v1
    obtain ⟨⟨c0, c1, c2, c3, c4, c5⟩, f0, f1, f2, f3, f4, f5⟩ := H4.out.box
    obtain ⟨⟨r0, r1, r2, r3, r4, r5⟩, g0, g1, g2, g3, g4, g5⟩ := H4.out.dr.res
    have hgl := H4.out.lt
    have H5 : Hid (DrB w b o len cap w3.heap.size 6 d n 0 0 v (a + 1 + 1 + 1 + 1) (w4.setCell ⟨w3.heap.size, 5, none⟩ (.int .i64 v))) := H4.out.put34 H.out v 5 (Or.inr (Or.inr rfl))
    have HD : Hid (DrawnO 6 d n 0 0 v) := ⟨by omega, md', ⟨n0, by omega⟩, Or.inr ⟨rfl, rfl⟩, Or.inl ⟨rfl, v0, by omega⟩⟩
    clear H4
    have KL := hidPln (H5.out.dr.res.putAll (.int .i64 6) (.int .i64 d) (.int .i64 n) (.int .i64 0) (.int .i64 0) (.int .i64 v))
    obtain ⟨⟨c0, c1, c2, c3, c4, c5⟩, f0, f1, f2, f3, f4, f5⟩ := H5.out.box
    obtain ⟨⟨r0, r1, r2, r3, r4, r5⟩, g0, g1, g2, g3, g4, g5⟩ := H5.out.dr.res
    have hgl := H5.out.lt
    go_wp2
    obtain ⟨⟨e0, e1, e2, e3, e4, e5⟩, _⟩ := KL.out
    refine bodyPost_ret (v := .agg #[.int .i64 6, .int .i64 d, .int .i64 n, .int .i64 0, .int .i64 0, .int .i64 v]) (by simp [results, Tryz.results43, go_sem, e0, e1, e2, e3, e4, e5]) rfl ?_
    exact ⟨_, _, _, _, _, _, _, rfl, HD.out, by omega, H5.out.dr.fin H.out _ _ _ _ _ _⟩
  · have d4 : (kd == 4) = false := by simp [k4]
    have d5 : (kd == 5) = false := by simp [k5]
    have d6 : (kd == 6) = false := by simp [k6]
    have HD : Hid (DrawnO kd d n 0 0 0) := ⟨mk', md', ⟨n0, by omega⟩, Or.inr ⟨rfl, rfl⟩, Or.inr rfl⟩
    clear k4 k5 k6
    go_upto_region 2 with fail
    generalize w3.alloc (.cells #[.int .i64 kd, .int .i64 d, .int .i64 n, .int .i64 0, .int .i64 0, .int .i64 0] 26) = x3 at H3 ⊢
    clear q0 q1 q2 q3 q4 q5 p0 p1 p2 p3 p4 p5
    have KL := hidPln (H3.out.dr.res.putAll (.int .i64 kd) (.int .i64 d) (.int .i64 n) (.int .i64 0) (.int .i64 0) (.int .i64 0))
    obtain ⟨⟨c0, c1, c2, c3, c4, c5⟩, f0, f1, f2, f3, f4, f5⟩ := H3.out.box
    obtain ⟨⟨r0, r1, r2, r3, r4, r5⟩, g0, g1, g2, g3, g4, g5⟩ := H3.out.dr.res
    have hgl := H3.out.lt
    go_wp2
    obtain ⟨⟨e0, e1, e2, e3, e4, e5⟩, _⟩ := KL.out
    refine bodyPost_ret (v := .agg #[.int .i64 kd, .int .i64 d, .int .i64 n, .int .i64 0, .int .i64 0, .int .i64 0]) (by simp [results, Tryz.results43, go_sem, e0, e1, e2, e3, e4, e5]) rfl ?_
    exact ⟨_, _, _, _, _, _, _, rfl, HD.out, by omega, H3.out.dr.fin H.out _ _ _ _ _ _⟩
end Go.Proofs.YtnchaccgenfhoaaGreat

namespace Go.Proofs.YtnchaccgenfhoaaGreat
open Go.RowKit

theorem field_plan4 (a b c d e : Value) (w : World) : (Instr.field 81 (.agg #[a, b, c, d, e]) 4).run Tryz.prog w = .ok e w := by kernel_rfl
theorem DrawnO.op {kd d n td tn v : Int} (h : DrawnO kd d n td tn v) : opF kd d n td tn v = 0 := by
  obtain ⟨h1, h2, h3, h4, h5⟩ := h
  exact opF_ok (decide_eq_true (by omega)) (decide_eq_true (by omega))
theorem Own.butD {x x' w : World} {b : Nat} {e : TypeId} {m n : Nat} {F : Nat → Int} {v : Value} (h : Own x w.heap.size e m n F v) (hT : But b x x') (hb : b < w.heap.size) : Own x' w.heap.size e m n F v :=
  h.keptT (fun k hk => hT.block k (own_in h k hk).2 (fun q => by have := (own_in h k hk).1; cases q; omega))
/-- What stands while a view grows. -/
def VwG (w : World) (b : Nat) (o : Option Addr) (len cap : Nat) (a : Int) (L : Prs) (u : Value) (x : World) : Prop := Src x b o len cap a ∧ But b w x ∧ Own x w.heap.size 61 2 L.length (rowL L) u
theorem VwG.below {w x x' : World} {b : Nat} {o : Option Addr} {len cap : Nat} {a : Int} {L : Prs} {u : Value} (h : VwG w b o len cap a L u x) (hb : Below x.heap.size x x') : VwG w b o len cap a L u x' := ⟨h.1.later hb, h.2.1.below hb, h.2.2.later hb⟩
set_option maxRecDepth 100000 in
set_option maxHeartbeats 4000000 in
theorem l13View_any (w : World) (b : Nat) (o : Option Addr) (len cap : Nat) (a : Int) (q : Nat) (h : Src w b o len cap a) (hq : q ≤ 100) (ha : a ≤ 800000) (hl : len ≤ 1048576) :
    Calls Tryz.prog 74 #[.pointer (some ⟨b, 0, none⟩), .int .i64 q] w fun e w' => ∃ (L : Prs) (ao : Option Addr) (cp : Nat) (a1 : Int), e = .returned (.slice ao L.length cp) ∧ GoodP L ∧ a1 ≤ a + 6 * q ∧ VwG w b o len cap a1 L (.slice ao L.length cp) w' := by
  have H : Hid (Src w b o len cap a) := h
  have hbl := h.lt
  have hfd := field_plan4
  clear h
  go_enter Tryz.func74, Tryz.ntmps74
  go_wp2_with fail
  refine (specEmpty_is 1 0 2 [0, 1, 1, 10, 1, 1000] _ (Or.inr ⟨by decide, rfl, rfl, rfl⟩)).mono ?_
  rintro e w1 ⟨vr, vw, rfl, ⟨_, hW, _⟩, q1⟩
  have H1 : Hid (Row w1 0 3 2 (fun p => [(0 : Int), 1, 1, 10, 1, 1000].getD p 0) vw ∧ Below w.heap.size w w1) := ⟨(OwnM.rowL hW).1.mono (Nat.zero_le _), q1⟩
  clear hW q1
  go_wp2_with fail
  refine (l11Apply_any [] (fun p => [(0 : Int), 1, 1, 10, 1, 1000].getD p 0) 2 (.slice none 0 0) vw 0 0 _ ⟨_, _, rfl, fun q => absurd q (Nat.lt_irrefl 0)⟩ H1.out.1 (by simp) (by decide) (fun i hi => by
    match i, hi with
    | 0, _ => exact ⟨by decide, by decide⟩
    | 1, _ => exact ⟨by decide, by decide⟩)).mono ?_
  rintro e w2 ⟨uo, uc, rfl, hO, q2⟩
  obtain ⟨V0, hV0⟩ : ∃ V0, applyN [] (fun p => [(0 : Int), 1, 1, 10, 1, 1000].getD p 0) 2 = V0 := ⟨_, rfl⟩
  have hg0 : GoodP V0 := by
    rw [← hV0]
    refine GoodP.apply ⟨List.Pairwise.nil, fun e he => absurd he (by simp)⟩ (fun i hi => ?_)
    match i, hi with
    | 0, _ => decide
    | 1, _ => decide
  rw [hV0] at hO ⊢
  have H2 : Hid (VwG w b o len cap a V0 (.slice uo V0.length uc) w2 ∧ GoodP V0) := ⟨⟨H.out.later (H1.out.2.trans (q2.mono H1.out.2.size)), (But.refl b w).below (H1.out.2.trans (q2.mono H1.out.2.size)), hO.mono H1.out.2.size⟩, hg0⟩
  clear hO q2 H1 hV0 hg0
  go_wp2
  go_loopw [1, 5] (fun i out wr => ∃ (k : Nat) (L : Prs) (ao : Option Addr) (cp : Nat) (a1 : Int), k ≤ q ∧ i = .int .i64 k ∧ out = .slice ao L.length cp ∧ a1 + 6 * k ≤ a + 6 * q ∧ Hid (VwG w b o len cap a1 L (.slice ao L.length cp) wr ∧ GoodP L)) (fun i _ _ => (intOf i).toNat)
  case atStart => exact ⟨q, V0, uo, uc, a, Nat.le_refl _, rfl, rfl, by omega, H2⟩
  case round =>
    clear H2
    obtain ⟨k, L, ao, cp, a1, hk, rfl, rfl, hak, HB⟩ := hrel
    obtain ⟨wa, rfl⟩ : ∃ x, x = wr := ⟨_, rfl⟩
    by_cases hlt : 0 < k
    case neg =>
      obtain rfl : k = 0 := by omega
      obtain ⟨LN, hLN⟩ : ∃ LN, L.length = LN := ⟨_, rfl⟩
      have HLN : Hid (L.length = LN) := hLN
      rw [hLN]
      clear hLN
      go_wp2
      refine bodyPost_ret (v := .slice ao LN cp) (by simp [results, Tryz.results74, go_sem]) rfl ?_
      rw [← HLN.out]
      exact ⟨L, ao, cp, a1, rfl, HB.out.2, by omega, HB.out.1⟩
    go_wp2_with fail
    refine (l13Draw_any _ b o len cap a1 HB.out.1.1 (by omega) hl).mono ?_
    rintro e w3 ⟨kd, d, n, td, tn, v, a2, rfl, hd, ha2, hS, hT⟩
    have hop := hd.op
    have hbd := op_bounds hop
    have H3 : Hid (VwG w b o len cap a2 L (.slice ao L.length cp) w3 ∧ GoodP L) := ⟨⟨hS, HB.out.1.2.1.trans hT, HB.out.1.2.2.butD hT hbl⟩, HB.out.2⟩
    have HA : Hid (a2 ≤ a1 + 6) := ha2
    clear hS hT HB hd ha2
    obtain ⟨r, vv, ys, m, W, hp⟩ : ∃ r vv ys m W, replyP L kd d n td tn v = (r, vv, ys, m, W) := ⟨_, _, _, _, _, rfl⟩
    have HI : Hid (ItemsOk m W ∧ GoodP (applyN L (fun p => W.getD p 0) m)) := by
      have i1 := (reply_items H3.out.2.vals hop).1
      have i2 := H3.out.2.applyOp hop
      unfold applyP at i2
      rw [hp] at i1 i2
      exact ⟨i1, i2⟩
    have HP : Hid (replyP L kd d n td tn v = (r, vv, ys, m, W)) := hp
    have HC : Hid (VwG w b o len cap a2 L (.slice ao L.length cp) (w3.alloc (.cells #[.int .i64 kd, .int .i64 d, .int .i64 n, .int .i64 td, .int .i64 tn, .int .i64 v] 26)) ∧ Ctx (w3.alloc (.cells #[.int .i64 kd, .int .i64 d, .int .i64 n, .int .i64 td, .int .i64 tn, .int .i64 v] 26)) L (.slice ao L.length cp) w3.heap.size 0 kd d n td tn v) := by
      have k1 := H3.out.1.below (below_alloc w3 (.cells #[.int .i64 kd, .int .i64 d, .int .i64 n, .int .i64 td, .int .i64 tn, .int .i64 v] 26))
      exact ⟨k1, ⟨k1.2.2.row.1.mono (Nat.zero_le _), by have := H3.out.2.len; omega⟩, (Blk6.new w3 _ _ _ _ _ _ _).toO, H3.out.2.vals, hbd.2.1, hbd.2.2.1, hbd.2.2.2.1, hbd.2.2.2.2⟩
    have hkd := hbd.1
    have hgl := H3.out.2
    clear hp hbd hop H3
    go_wp2_with fail
    generalize w3.alloc (.cells #[.int .i64 kd, .int .i64 d, .int .i64 n, .int .i64 td, .int .i64 tn, .int .i64 v] 26) = w4 at HC ⊢
    refine (l13Compile_is L _ w3.heap.size 0 kd d n td tn v _ HC.out.2 hkd r vv ys m W HP.out).mono ?_
    rintro e w5 ⟨pr, pw, rfl, ⟨hI, hW, _⟩, q5⟩
    obtain ⟨g1, g2, rfl⟩ := hI.form
    obtain ⟨g3, g4, rfl⟩ := hW.form
    have H5 : Hid (VwG w b o len cap a2 L (.slice ao L.length cp) (w5.alloc (.cells #[.int .i64 0, .int .i64 r, .int .i64 vv, .slice g1 ys.length g2, .slice g3 m g4] 81)) ∧ Row (w5.alloc (.cells #[.int .i64 0, .int .i64 r, .int .i64 vv, .slice g1 ys.length g2, .slice g3 m g4] 81)) 0 3 m (fun p => W.getD p 0) (.slice g3 m g4)) := ⟨(HC.out.1.below q5).below (below_alloc _ _), ((OwnM.rowL hW).1.mono (Nat.zero_le _)).alloc _⟩
    clear hW hI q5 HC HP
    by_cases hr : r = 0
    case neg =>
      have d1 : (r == 0) = false := beq_eq_false_iff_ne.2 hr
      clear hr HI
      go_wp2
      go_roundw
      case rel => exact ⟨k - 1, L, ao, cp, a2, by omega, by go_num, rfl, by have := HA.out; omega, H5.out.1, hgl⟩
      case measure => simp [intOf]; omega
    have d1 : (r == 0) = true := beq_iff_eq.2 hr
    clear hr
    go_wp2_with fail
    refine (l11Apply_any L (fun p => W.getD p 0) m _ _ w.heap.size 0 _ H5.out.1.2.2.row.1 H5.out.2 (by have := hgl.len; omega) (appliedF_zero HI.out.1.1).1 (fun i hi => (appF_zero (HI.out.1.all i hi)).2.1)).mono ?_
    rintro e w6 ⟨bo, bc, rfl, hO, q6⟩
    have H6 : Hid (VwG w b o len cap a2 (applyN L (fun p => W.getD p 0) m) (.slice bo (applyN L (fun p => W.getD p 0) m).length bc) w6 ∧ GoodP (applyN L (fun p => W.getD p 0) m)) := by
      have k1 := H5.out.1.below q6
      exact ⟨⟨k1.1, k1.2.1, hO.mono (H5.out.1.2.1.size)⟩, HI.out.2⟩
    clear hO q6 H5 HI
    go_wp2
    go_roundw
    case rel => exact ⟨k - 1, _, bo, bc, a2, by omega, by go_num, rfl, by have := HA.out; omega, H6⟩
    case measure => simp [intOf]; omega
end Go.Proofs.YtnchaccgenfhoaaGreat

namespace Go.Proofs.YtnchaccgenfhoaaGreat
open Go.RowKit

theorem intsCg (x : World) (g : Nat) (hg : x.heap.size = g) : Ints (x.alloc (.cells #[.int .i64 0, .int .i64 5, .int .i64 1000, .int .i64 2001, .int .i64 9999] 2)) g (.slice (some ⟨g, 0, none⟩) 5 5) [0, 5, 1000, 2001, 9999] := hg ▸ World.ownsRow_lit x #[.int .i64 0, .int .i64 5, .int .i64 1000, .int .i64 2001, .int .i64 9999] 5 (Nat.le_refl _) (by decide) rfl
theorem accS_two (L : Prs) (k x : Int) (has : Bool) : ∀ i, (accS L k x has i).1.length ≤ 2 * i
  | 0 => by simp [accS]
  | i + 1 => by
    have := accS_two L k x has i
    rw [accS]
    unfold stepS
    split <;> (try split) <;> simp <;> omega
theorem setS_len (L : Prs) (k x : Int) (has : Bool) : (setS L k x has).length ≤ 2 * L.length + 1 := by
  have := accS_two L k x has L.length
  unfold setS
  split
  · omega
  · simp; omega
/-- A view that was drawn. -/
def DrV (w : World) (b : Nat) (o : Option Addr) (len cap : Nat) (a : Int) (n : Nat) (v : Value) (x : World) : Prop := (∃ F, Row x w.heap.size 2 n F v) ∧ Src x b o len cap a ∧ But b w x
set_option maxRecDepth 100000 in
set_option maxHeartbeats 4000000 in
theorem l13BentView_any (w : World) (b : Nat) (o : Option Addr) (len cap : Nat) (a : Int) (h : Src w b o len cap a) (ha : a ≤ 300000) (hl : len ≤ 1048576) :
    Calls Tryz.prog 41 #[.pointer (some ⟨b, 0, none⟩)] w fun e w' => ∃ (n : Nat) (ao : Option Addr) (cp : Nat) (a1 : Int), e = .returned (.slice ao n cp) ∧ n ≤ 401 ∧ a1 ≤ a + 300 ∧ DrV w b o len cap a1 n (.slice ao n cp) w' := by
  have H : Hid (Src w b o len cap a) := h
  have hbl := h.lt
  clear h
  go_enter Tryz.func41, Tryz.ntmps41
  go_wp2_with fail
  refine (l1Next_any _ b o len cap a 20 H.out (by omega) hl).mono ?_
  rintro e w1 ⟨q0, rfl, h0, h1, hS, hT⟩
  have h20 := h1 (by omega)
  obtain ⟨q, rfl⟩ : ∃ q : Nat, q0 = (q : Int) := ⟨q0.toNat, by omega⟩
  have H1 : Hid (Src w1 b o len cap (a + 1) ∧ But b w w1) := ⟨hS, hT⟩
  clear hS hT h1
  go_wp2_with fail
  refine (l13View_any w1 b o len cap (a + 1) q H1.out.1 (by omega) (by omega) hl).mono ?_
  rintro e w2 ⟨L, ao, cp, a2, rfl, hg, ha2, hV⟩
  have H2 : Hid (Src w2 b o len cap a2 ∧ But b w w2 ∧ Own w2 w.heap.size 61 2 L.length (rowL L) (.slice ao L.length cp) ∧ GoodP L) := ⟨hV.1, H1.out.2.trans hV.2.1, hV.2.2.mono H1.out.2.size, hg⟩
  have HA : Hid (a2 ≤ a + 127) := by show a2 ≤ _; omega
  clear hg ha2 hV H1
  go_wp2_with fail
  refine (l1Next_any _ b o len cap a2 12 H2.out.1 (by have := HA.out; omega) hl).mono ?_
  rintro e w3 ⟨s, rfl, s0, s1, hS, hT⟩
  have H3 : Hid (Src w3 b o len cap (a2 + 1) ∧ But b w w3 ∧ Own w3 w.heap.size 61 2 L.length (rowL L) (.slice ao L.length cp) ∧ GoodP L) := ⟨hS, H2.out.2.1.trans hT, H2.out.2.2.1.butD hT hbl, H2.out.2.2.2⟩
  clear hS hT H2 s1
  have hLl : L.length ≤ 200 := H3.out.2.2.2.len
  by_cases e0 : s = 0
  · subst e0
    go_wp2_with fail
    refine (l11Bent_any _ b o len cap (a2 + 1) H3.out.1 (by have := HA.out; omega) hl).mono ?_
    rintro e w4 ⟨n, bo, bc, a4, rfl, hn, ha4, hq⟩
    have H4 : Hid (DrV w b o len cap a4 n (.slice bo n bc) w4) := by
      obtain ⟨G, hG⟩ := hq.row
      exact ⟨⟨G, hG.mono H3.out.2.1.size⟩, hq.src, H3.out.2.1.trans hq.but⟩
    clear hq
    go_wp2
    go_ret
    exact ⟨n, bo, bc, a4, rfl, by omega, by have := HA.out; omega, H4.out⟩
  have d0 : (s == 0) = false := beq_eq_false_iff_ne.2 e0
  by_cases e1 : s = 1
  · subst e1
    go_wp2_with fail
    refine (l1Key_any _ b o len cap (a2 + 1) H3.out.1 (by have := HA.out; omega) hl).mono ?_
    rintro e w4 ⟨ky, rfl, _, hS, hT⟩
    have H4 : Hid (Src w4 b o len cap (a2 + 1 + 5) ∧ But b w w4 ∧ Own w4 w.heap.size 61 2 L.length (rowL L) (.slice ao L.length cp)) := ⟨hS, H3.out.2.1.trans hT, H3.out.2.2.1.butD hT hbl⟩
    clear hS hT H3
    go_wp2_with fail
    refine (l1Pick_any _ b o len cap (a2 + 1 + 5) _ _ [0, 5, 1000, 2001, 9999] (H4.out.1.alloc _) (by have := HA.out; omega) hl (intsCg w4 w4.heap.size rfl) H4.out.1.lt (by simp) (by simp)).mono ?_
    rintro e w5 ⟨pv, rfl, _, hS, hT⟩
    have H5 : Hid (Src w5 b o len cap (a2 + 1 + 5 + 1) ∧ But b w w5 ∧ Own w5 w.heap.size 61 2 L.length (rowL L) (.slice ao L.length cp)) := ⟨hS, (H4.out.2.1.alloc _).trans hT, (H4.out.2.2.alloc _).butD hT hbl⟩
    clear hS hT H4
    go_wp2_with fail
    refine (l11Set_any L _ w.heap.size ky pv true _ H5.out.2.2.row.1 (by omega)).mono ?_
    rintro e w6 ⟨bo, bc, rfl, hO, q6⟩
    obtain ⟨LN, hLN⟩ : ∃ LN, (setS L ky pv true).length = LN := ⟨_, rfl⟩
    have hLN2 : LN ≤ 401 := by rw [← hLN]; have := setS_len L ky pv true; omega
    have H6 : Hid (DrV w b o len cap (a2 + 1 + 5 + 1) LN (.slice bo LN bc) w6) := by
      rw [hLN] at hO
      exact ⟨⟨_, hO.row.1.mono H5.out.2.1.size⟩, H5.out.1.later q6, H5.out.2.1.below q6⟩
    rw [hLN]
    clear hO q6 H5 hLN
    go_wp2
    go_ret
    exact ⟨LN, bo, bc, _, rfl, hLN2, by have := HA.out; omega, H6.out⟩
  have d1 : (s == 1) = false := beq_eq_false_iff_ne.2 e1
  by_cases e2 : s = 2
  · subst e2
    go_wp2_with fail
    refine (l1Key_any _ b o len cap (a2 + 1) H3.out.1 (by have := HA.out; omega) hl).mono ?_
    rintro e w4 ⟨ky, rfl, _, hS, hT⟩
    have H4 : Hid (Src w4 b o len cap (a2 + 1 + 5) ∧ But b w w4 ∧ Own w4 w.heap.size 61 2 L.length (rowL L) (.slice ao L.length cp)) := ⟨hS, H3.out.2.1.trans hT, H3.out.2.2.1.butD hT hbl⟩
    clear hS hT H3
    go_wp2_with fail
    refine (l11Set_any L _ w.heap.size ky 0 false _ H4.out.2.2.row.1 (by omega)).mono ?_
    rintro e w6 ⟨bo, bc, rfl, hO, q6⟩
    obtain ⟨LN, hLN⟩ : ∃ LN, (setS L ky 0 false).length = LN := ⟨_, rfl⟩
    have hLN2 : LN ≤ 401 := by rw [← hLN]; have := setS_len L ky 0 false; omega
    have H6 : Hid (DrV w b o len cap (a2 + 1 + 5) LN (.slice bo LN bc) w6) := by
      rw [hLN] at hO
      exact ⟨⟨_, hO.row.1.mono H4.out.2.1.size⟩, H4.out.1.later q6, H4.out.2.1.below q6⟩
    rw [hLN]
    clear hO q6 H4 hLN
    go_wp2
    go_ret
    exact ⟨LN, bo, bc, _, rfl, hLN2, by have := HA.out; omega, H6.out⟩
  have d2 : (s == 2) = false := beq_eq_false_iff_ne.2 e2
  obtain ⟨LN, hLN⟩ : ∃ LN, L.length = LN := ⟨_, rfl⟩
  have H6 : Hid (DrV w b o len cap (a2 + 1) LN (.slice ao LN cp) w3) := by
    rw [← hLN]
    exact ⟨⟨_, H3.out.2.2.1.row.1⟩, H3.out.1, H3.out.2.1⟩
  have hLN2 : LN ≤ 401 := by omega
  rw [hLN]
  clear H3 hLN hLl
  go_wp2
  go_ret
  exact ⟨LN, ao, cp, _, rfl, hLN2, by have := HA.out; omega, H6.out⟩
end Go.Proofs.YtnchaccgenfhoaaGreat

namespace Go.Proofs.YtnchaccgenfhoaaGreat
open Go.RowKit

theorem DrB.put0B {w x : World} {b : Nat} {o : Option Addr} {len cap g : Nat} {kd d n td tn v a : Int} (h : DrB w b o len cap g kd d n td tn v a x) {a0 : Int} (h0 : Src w b o len cap a0) (u : Int) :
    DrB w b o len cap g u d n td tn v a (x.setCell ⟨g, 0, none⟩ (.int .i64 u)) := by
  refine ⟨h.dr.set h0 h.lt _ _, ?_, h.lt⟩
  obtain ⟨⟨c0, c1, c2, c3, c4, c5⟩, f0, f1, f2, f3, f4, f5⟩ := h.box
  refine ⟨⟨?_, ?_, ?_, ?_, ?_, ?_⟩, by simpa using f0, by simpa using f1, by simpa using f2, by simpa using f3, by simpa using f4, by simpa using f5⟩
  · exact World.cell?_setCell_same _ _ _ c0
  · exact setCell_otherE (by decide) c1
  · exact setCell_otherE (by decide) c2
  · exact setCell_otherE (by decide) c3
  · exact setCell_otherE (by decide) c4
  · exact setCell_otherE (by decide) c5
theorem DrB.put1B {w x : World} {b : Nat} {o : Option Addr} {len cap g : Nat} {kd d n td tn v a : Int} (h : DrB w b o len cap g kd d n td tn v a x) {a0 : Int} (h0 : Src w b o len cap a0) (u : Int) :
    DrB w b o len cap g kd u n td tn v a (x.setCell ⟨g, 1, none⟩ (.int .i64 u)) := by
  refine ⟨h.dr.set h0 h.lt _ _, ?_, h.lt⟩
  obtain ⟨⟨c0, c1, c2, c3, c4, c5⟩, f0, f1, f2, f3, f4, f5⟩ := h.box
  refine ⟨⟨?_, ?_, ?_, ?_, ?_, ?_⟩, by simpa using f0, by simpa using f1, by simpa using f2, by simpa using f3, by simpa using f4, by simpa using f5⟩
  · exact setCell_otherE (by decide) c0
  · exact World.cell?_setCell_same _ _ _ c1
  · exact setCell_otherE (by decide) c2
  · exact setCell_otherE (by decide) c3
  · exact setCell_otherE (by decide) c4
  · exact setCell_otherE (by decide) c5
theorem DrB.put2B {w x : World} {b : Nat} {o : Option Addr} {len cap g : Nat} {kd d n td tn v a : Int} (h : DrB w b o len cap g kd d n td tn v a x) {a0 : Int} (h0 : Src w b o len cap a0) (u : Int) :
    DrB w b o len cap g kd d u td tn v a (x.setCell ⟨g, 2, none⟩ (.int .i64 u)) := by
  refine ⟨h.dr.set h0 h.lt _ _, ?_, h.lt⟩
  obtain ⟨⟨c0, c1, c2, c3, c4, c5⟩, f0, f1, f2, f3, f4, f5⟩ := h.box
  refine ⟨⟨?_, ?_, ?_, ?_, ?_, ?_⟩, by simpa using f0, by simpa using f1, by simpa using f2, by simpa using f3, by simpa using f4, by simpa using f5⟩
  · exact setCell_otherE (by decide) c0
  · exact setCell_otherE (by decide) c1
  · exact World.cell?_setCell_same _ _ _ c2
  · exact setCell_otherE (by decide) c3
  · exact setCell_otherE (by decide) c4
  · exact setCell_otherE (by decide) c5
theorem intsP0 (x : World) (g : Nat) (hg : x.heap.size = g) : Ints (x.alloc (.cells #[.int .i64 0, .int .i64 9, .int .i64 1, .int .i64 6] 2)) g (.slice (some ⟨g, 0, none⟩) 4 4) [0, 9, 1, 6] := hg ▸ World.ownsRow_lit x #[.int .i64 0, .int .i64 9, .int .i64 1, .int .i64 6] 4 (Nat.le_refl _) (by decide) rfl
theorem intsP1 (x : World) (g : Nat) (hg : x.heap.size = g) : Ints (x.alloc (.cells #[.int .i64 (-1), .int .i64 10, .int .i64 9] 2)) g (.slice (some ⟨g, 0, none⟩) 3 3) [-1, 10, 9] := hg ▸ World.ownsRow_lit x #[.int .i64 (-1), .int .i64 10, .int .i64 9] 3 (Nat.le_refl _) (by decide) rfl
theorem intsP2 (x : World) (g : Nat) (hg : x.heap.size = g) : Ints (x.alloc (.cells #[.int .i64 (-1), .int .i64 6, .int .i64 5] 2)) g (.slice (some ⟨g, 0, none⟩) 3 3) [-1, 6, 5] := hg ▸ World.ownsRow_lit x #[.int .i64 (-1), .int .i64 6, .int .i64 5] 3 (Nat.le_refl _) (by decide) rfl
theorem intsP3 (x : World) (g : Nat) (hg : x.heap.size = g) : Ints (x.alloc (.cells #[.int .i64 10, .int .i64 3] 2)) g (.slice (some ⟨g, 0, none⟩) 2 2) [10, 3] := hg ▸ World.ownsRow_lit x #[.int .i64 10, .int .i64 3] 2 (Nat.le_refl _) (by decide) rfl
theorem intsP4 (x : World) (g : Nat) (hg : x.heap.size = g) : Ints (x.alloc (.cells #[.int .i64 (-1), .int .i64 10000, .int .i64 5] 2)) g (.slice (some ⟨g, 0, none⟩) 3 3) [-1, 10000, 5] := hg ▸ World.ownsRow_lit x #[.int .i64 (-1), .int .i64 10000, .int .i64 5] 3 (Nat.le_refl _) (by decide) rfl
set_option maxRecDepth 100000 in
set_option maxHeartbeats 4000000 in
theorem l13Bent_any (w : World) (b : Nat) (o : Option Addr) (len cap : Nat) (a : Int) (h : Src w b o len cap a) (ha : a ≤ 800000) (hl : len ≤ 1048576) :
    Calls Tryz.prog 44 #[.pointer (some ⟨b, 0, none⟩)] w fun e w' => ∃ kd d n td tn v a1 : Int, e = .returned (.agg #[.int .i64 kd, .int .i64 d, .int .i64 n, .int .i64 td, .int .i64 tn, .int .i64 v]) ∧ a1 ≤ a + 8 ∧ Src w' b o len cap a1 ∧ But b w w' := by
  have H : Hid (Src w b o len cap a) := h
  have hbl := h.lt
  have H0 : Hid (DrO w b o len cap a (w.alloc zeroO)) := ⟨h.alloc _, (But.refl _ _).alloc _, Blk6.new w _ _ _ _ _ _ _⟩
  clear h
  go_enter Tryz.func44, Tryz.ntmps44
  go_wp2_with fail
  refine (l13Draw_any _ b o len cap a H0.out.src (by omega) hl).mono ?_
  rintro e w1 ⟨kd, d, n, td, tn, v, a1, rfl, _, ha1, hS, hT⟩
  have HW : Hid (DrO w b o len cap a1 w1) := H0.out.step hbl hS hT
  have H1 : Hid (DrB w b o len cap w1.heap.size kd d n td tn v a1 (w1.alloc (.cells #[.int .i64 kd, .int .i64 d, .int .i64 n, .int .i64 td, .int .i64 tn, .int .i64 v] 26))) := ⟨HW.out.alloc _, Blk6.new w1 _ _ _ _ _ _ _, HW.out.res.lt⟩
  clear hS hT H0
  go_wp2_with fail
  refine (l1Next_any _ b o len cap a1 12 H1.out.dr.src (by omega) hl).mono ?_
  rintro e w2 ⟨s, rfl, s0, _, hS, hT⟩
  have H2 : Hid (DrB w b o len cap w1.heap.size kd d n td tn v (a1 + 1) w2) := H1.out.step hbl hS hT
  clear hS hT H1 HW
  by_cases e0 : s = 0
  · subst e0
    go_wp2_with fail
    refine (l1Pick_any _ b o len cap (a1 + 1) _ _ [0, 9, 1, 6] (H2.out.dr.src.alloc _) (by omega) hl (intsP0 w2 w2.heap.size rfl) H2.out.dr.src.lt (by simp) (by simp)).mono ?_
    rintro e w3 ⟨u, rfl, _, hS, hT⟩
    have H4 : Hid (DrB w b o len cap w1.heap.size kd d n td tn v (a1 + 1 + 1) w3) := (H2.out.alloc _).step hbl hS hT
    clear hS hT H2
    obtain ⟨⟨z0, z1, z2, z3, z4, z5⟩, f0, f1, f2, f3, f4, f5⟩ := H4.out.box
    have H5 : Hid (DrB w b o len cap w1.heap.size u d n td tn v (a1 + 1 + 1) (w3.setCell ⟨w1.heap.size, 0, none⟩ (.int .i64 u))) := H4.out.put0B H.out u
    have KL := hidPln (H5.out.dr.res.putAll (.int .i64 u) (.int .i64 d) (.int .i64 n) (.int .i64 td) (.int .i64 tn) (.int .i64 v))
    obtain ⟨⟨r0, r1, r2, r3, r4, r5⟩, g0, g1, g2, g3, g4, g5⟩ := H4.out.dr.res
    have hgl := H4.out.lt
    clear H4
    go_wp2
    obtain ⟨⟨k0, k1, k2, k3, k4, k5⟩, _⟩ := KL.out
    refine bodyPost_ret (v := .agg #[.int .i64 u, .int .i64 d, .int .i64 n, .int .i64 td, .int .i64 tn, .int .i64 v]) (by simp [results, Tryz.results44, go_sem, k0, k1, k2, k3, k4, k5]) rfl ?_
    exact ⟨_, _, _, _, _, _, _, rfl, by omega, H5.out.dr.fin H.out _ _ _ _ _ _⟩
  have d0 : (s == 0) = false := beq_eq_false_iff_ne.2 e0
  by_cases e1 : s = 1
  · subst e1
    go_wp2_with fail
    refine (l1Pick_any _ b o len cap (a1 + 1) _ _ [-1, 10, 9] (H2.out.dr.src.alloc _) (by omega) hl (intsP1 w2 w2.heap.size rfl) H2.out.dr.src.lt (by simp) (by simp)).mono ?_
    rintro e w3 ⟨u, rfl, _, hS, hT⟩
    have H4 : Hid (DrB w b o len cap w1.heap.size kd d n td tn v (a1 + 1 + 1) w3) := (H2.out.alloc _).step hbl hS hT
    clear hS hT H2
    obtain ⟨⟨z0, z1, z2, z3, z4, z5⟩, f0, f1, f2, f3, f4, f5⟩ := H4.out.box
    have H5 : Hid (DrB w b o len cap w1.heap.size kd u n td tn v (a1 + 1 + 1) (w3.setCell ⟨w1.heap.size, 1, none⟩ (.int .i64 u))) := H4.out.put1B H.out u
    have KL := hidPln (H5.out.dr.res.putAll (.int .i64 kd) (.int .i64 u) (.int .i64 n) (.int .i64 td) (.int .i64 tn) (.int .i64 v))
    obtain ⟨⟨r0, r1, r2, r3, r4, r5⟩, g0, g1, g2, g3, g4, g5⟩ := H4.out.dr.res
    have hgl := H4.out.lt
    clear H4
    go_wp2
    obtain ⟨⟨k0, k1, k2, k3, k4, k5⟩, _⟩ := KL.out
    refine bodyPost_ret (v := .agg #[.int .i64 kd, .int .i64 u, .int .i64 n, .int .i64 td, .int .i64 tn, .int .i64 v]) (by simp [results, Tryz.results44, go_sem, k0, k1, k2, k3, k4, k5]) rfl ?_
    exact ⟨_, _, _, _, _, _, _, rfl, by omega, H5.out.dr.fin H.out _ _ _ _ _ _⟩
  have d1 : (s == 1) = false := beq_eq_false_iff_ne.2 e1
  by_cases e2 : s = 2
  · subst e2
    go_wp2_with fail
    refine (l1Pick_any _ b o len cap (a1 + 1) _ _ [-1, 6, 5] (H2.out.dr.src.alloc _) (by omega) hl (intsP2 w2 w2.heap.size rfl) H2.out.dr.src.lt (by simp) (by simp)).mono ?_
    rintro e w3 ⟨u, rfl, _, hS, hT⟩
    have H4 : Hid (DrB w b o len cap w1.heap.size kd d n td tn v (a1 + 1 + 1) w3) := (H2.out.alloc _).step hbl hS hT
    clear hS hT H2
    obtain ⟨⟨z0, z1, z2, z3, z4, z5⟩, f0, f1, f2, f3, f4, f5⟩ := H4.out.box
    have H5 : Hid (DrB w b o len cap w1.heap.size kd d u td tn v (a1 + 1 + 1) (w3.setCell ⟨w1.heap.size, 2, none⟩ (.int .i64 u))) := H4.out.put2B H.out u
    have KL := hidPln (H5.out.dr.res.putAll (.int .i64 kd) (.int .i64 d) (.int .i64 u) (.int .i64 td) (.int .i64 tn) (.int .i64 v))
    obtain ⟨⟨r0, r1, r2, r3, r4, r5⟩, g0, g1, g2, g3, g4, g5⟩ := H4.out.dr.res
    have hgl := H4.out.lt
    clear H4
    go_wp2
    obtain ⟨⟨k0, k1, k2, k3, k4, k5⟩, _⟩ := KL.out
    refine bodyPost_ret (v := .agg #[.int .i64 kd, .int .i64 d, .int .i64 u, .int .i64 td, .int .i64 tn, .int .i64 v]) (by simp [results, Tryz.results44, go_sem, k0, k1, k2, k3, k4, k5]) rfl ?_
    exact ⟨_, _, _, _, _, _, _, rfl, by omega, H5.out.dr.fin H.out _ _ _ _ _ _⟩
  have d2 : (s == 2) = false := beq_eq_false_iff_ne.2 e2
  by_cases e3 : s = 3
  · subst e3
    go_wp2_with fail
    refine (l1Pick_any _ b o len cap (a1 + 1) _ _ [10, 3] (H2.out.dr.src.alloc _) (by omega) hl (intsP3 w2 w2.heap.size rfl) H2.out.dr.src.lt (by simp) (by simp)).mono ?_
    rintro e w3 ⟨u, rfl, _, hS, hT⟩
    have H4 : Hid (DrB w b o len cap w1.heap.size kd d n td tn v (a1 + 1 + 1) w3) := (H2.out.alloc _).step hbl hS hT
    clear hS hT H2
    obtain ⟨⟨z0, z1, z2, z3, z4, z5⟩, f0, f1, f2, f3, f4, f5⟩ := H4.out.box
    have H5 : Hid (DrB w b o len cap w1.heap.size kd d n u tn v (a1 + 1 + 1) (w3.setCell ⟨w1.heap.size, 3, none⟩ (.int .i64 u))) := H4.out.put34 H.out u 3 (Or.inl rfl)
    have KL := hidPln (H5.out.dr.res.putAll (.int .i64 kd) (.int .i64 d) (.int .i64 n) (.int .i64 u) (.int .i64 tn) (.int .i64 v))
    obtain ⟨⟨r0, r1, r2, r3, r4, r5⟩, g0, g1, g2, g3, g4, g5⟩ := H4.out.dr.res
    have hgl := H4.out.lt
    clear H4
    go_wp2
    obtain ⟨⟨k0, k1, k2, k3, k4, k5⟩, _⟩ := KL.out
    refine bodyPost_ret (v := .agg #[.int .i64 kd, .int .i64 d, .int .i64 n, .int .i64 u, .int .i64 tn, .int .i64 v]) (by simp [results, Tryz.results44, go_sem, k0, k1, k2, k3, k4, k5]) rfl ?_
    exact ⟨_, _, _, _, _, _, _, rfl, by omega, H5.out.dr.fin H.out _ _ _ _ _ _⟩
  have d3 : (s == 3) = false := beq_eq_false_iff_ne.2 e3
  by_cases e4 : s = 4
  · subst e4
    go_wp2_with fail
    refine (l1Pick_any _ b o len cap (a1 + 1) _ _ [-1, 10000, 5] (H2.out.dr.src.alloc _) (by omega) hl (intsP4 w2 w2.heap.size rfl) H2.out.dr.src.lt (by simp) (by simp)).mono ?_
    rintro e w3 ⟨u, rfl, _, hS, hT⟩
    have H4 : Hid (DrB w b o len cap w1.heap.size kd d n td tn v (a1 + 1 + 1) w3) := (H2.out.alloc _).step hbl hS hT
    clear hS hT H2
    obtain ⟨⟨z0, z1, z2, z3, z4, z5⟩, f0, f1, f2, f3, f4, f5⟩ := H4.out.box
    have H5 : Hid (DrB w b o len cap w1.heap.size kd d n td tn u (a1 + 1 + 1) (w3.setCell ⟨w1.heap.size, 5, none⟩ (.int .i64 u))) := H4.out.put34 H.out u 5 (Or.inr (Or.inr rfl))
    have KL := hidPln (H5.out.dr.res.putAll (.int .i64 kd) (.int .i64 d) (.int .i64 n) (.int .i64 td) (.int .i64 tn) (.int .i64 u))
    obtain ⟨⟨r0, r1, r2, r3, r4, r5⟩, g0, g1, g2, g3, g4, g5⟩ := H4.out.dr.res
    have hgl := H4.out.lt
    clear H4
    go_wp2
    obtain ⟨⟨k0, k1, k2, k3, k4, k5⟩, _⟩ := KL.out
    refine bodyPost_ret (v := .agg #[.int .i64 kd, .int .i64 d, .int .i64 n, .int .i64 td, .int .i64 tn, .int .i64 u]) (by simp [results, Tryz.results44, go_sem, k0, k1, k2, k3, k4, k5]) rfl ?_
    exact ⟨_, _, _, _, _, _, _, rfl, by omega, H5.out.dr.fin H.out _ _ _ _ _ _⟩
  have d4 : (s == 4) = false := beq_eq_false_iff_ne.2 e4
  obtain ⟨⟨z0, z1, z2, z3, z4, z5⟩, f0, f1, f2, f3, f4, f5⟩ := H2.out.box
  have KL := hidPln (H2.out.dr.res.putAll (.int .i64 kd) (.int .i64 d) (.int .i64 n) (.int .i64 td) (.int .i64 tn) (.int .i64 v))
  obtain ⟨⟨r0, r1, r2, r3, r4, r5⟩, g0, g1, g2, g3, g4, g5⟩ := H2.out.dr.res
  have hgl := H2.out.lt
  go_wp2
  obtain ⟨⟨k0, k1, k2, k3, k4, k5⟩, _⟩ := KL.out
  refine bodyPost_ret (v := .agg #[.int .i64 kd, .int .i64 d, .int .i64 n, .int .i64 td, .int .i64 tn, .int .i64 v]) (by simp [results, Tryz.results44, go_sem, k0, k1, k2, k3, k4, k5]) rfl ?_
  exact ⟨_, _, _, _, _, _, _, rfl, by omega, H2.out.dr.fin H.out _ _ _ _ _ _⟩
end Go.Proofs.YtnchaccgenfhoaaGreat

namespace Go.Proofs.YtnchaccgenfhoaaGreat
open Go.RowKit

theorem row_lit6 (w : World) (x0 x1 x2 x3 x4 x5 : Int) (t : TypeId) (b : Nat) (hb : w.heap.size = b) : Row (w.alloc (.cells #[.int .i64 x0, .int .i64 x1, .int .i64 x2, .int .i64 x3, .int .i64 x4, .int .i64 x5] t)) 0 6 1 (fun p => [x0, x1, x2, x3, x4, x5].getD p 0) (.slice (some ⟨b, 0, none⟩) 1 1) := by
  subst hb
  refine ⟨_, _, rfl, fun _ => ⟨w.heap.size, 0, rfl, Nat.zero_le _, by simp, fun p hp => ?_⟩⟩
  rw [Nat.zero_add]
  match p, hp with
  | 0, _ => exact World.cell?_alloc_mark w _ _ _ 0
  | 1, _ => exact World.cell?_alloc_mark w _ _ _ 1
  | 2, _ => exact World.cell?_alloc_mark w _ _ _ 2
  | 3, _ => exact World.cell?_alloc_mark w _ _ _ 3
  | 4, _ => exact World.cell?_alloc_mark w _ _ _ 4
  | 5, _ => exact World.cell?_alloc_mark w _ _ _ 5
theorem own_formR {w : World} {B : Nat} {e : TypeId} {m n : Nat} {ao : Option Addr} {cp : Nat} {L : List Int} (h : OwnM w B e m (.slice ao n cp) n L) : n ≤ cp ∧ ((ao = none ∧ cp = 0) ∨ ∃ g : Nat, ao = some ⟨g, 0, none⟩) := by
  refine ⟨h.cap, ?_⟩
  rcases h.2 with ⟨q, e⟩ | ⟨g, cap, cur, q, _, _, hn, _⟩
  · cases q; exact Or.inl ⟨rfl, rfl⟩
  · cases q; exact Or.inr ⟨g, rfl⟩
/-- The two that are drawn. -/
def DrawnR (w : World) (e : Ending) (w' : World) : Prop := ∃ (m : Nat) (V : Nat → Int) (ao : Option Addr) (cp : Nat) (k : Nat) (G : Nat → Int) (bo : Option Addr) (bp : Nat), e = .returned (.tuple #[.slice ao m cp, .slice bo k bp]) ∧ m ≤ 401 ∧ k ≤ 41 ∧ (k ≤ bp ∧ ((bo = none ∧ bp = 0) ∨ ∃ g : Nat, bo = some ⟨g, 0, none⟩)) ∧ Row w' w.heap.size 2 m V (.slice ao m cp) ∧ Row w' w.heap.size 6 k G (.slice bo k bp) ∧ Below w.heap.size w w'
set_option maxRecDepth 100000 in
theorem madeCells_ops (p : Nat) (h : p < 41 * 6) : (madeCells #[.int .i64 0, .int .i64 0, .int .i64 0, .int .i64 0, .int .i64 0, .int .i64 0] 246)[p]? = some (.int .i64 0) := by
  have hs : (madeCells #[.int .i64 0, .int .i64 0, .int .i64 0, .int .i64 0, .int .i64 0, .int .i64 0] 246).size = 246 := size_madeCells _ _
  rw [Array.getElem?_eq_getElem (by omega)]
  have h6 : p % 6 < 6 := Nat.mod_lt _ (by omega)
  have ha : ∀ q, q < 6 → (#[.int .i64 0, .int .i64 0, .int .i64 0, .int .i64 0, .int .i64 0, .int .i64 0] : Array Value)[q]? = some (.int .i64 0) := by
    intro q hq
    match q, hq with
    | 0, _ => rfl
    | 1, _ => rfl
    | 2, _ => rfl
    | 3, _ => rfl
    | 4, _ => rfl
    | 5, _ => rfl
  have ht := ha (p % 6) h6
  simp at ht
  simp [madeCells, ht]
theorem row_madeF (w : World) (t : TypeId) {B : Nat} (hB : B ≤ w.heap.size) : Row (w.alloc (.cells (madeCells #[.int .i64 0, .int .i64 0, .int .i64 0, .int .i64 0, .int .i64 0, .int .i64 0] 246) t)) B 6 41 (fun _ => 0) (.slice (some ⟨w.heap.size, 0, none⟩) 41 41) := by
  refine ⟨_, _, rfl, fun _ => ⟨w.heap.size, 0, rfl, hB, by simp, fun p hp => ?_⟩⟩
  rw [Nat.zero_add, World.cell?_alloc_mark]
  exact madeCells_ops p hp
theorem hidR {p : Prop} (h : p) : Hid p := h
set_option maxRecDepth 100000 in
set_option maxHeartbeats 4000000 in
theorem drawRunFs_any (w : World) (o : Option Addr) (len cap : Nat) (h : Code w o len) (hl : len ≤ 1048576) :
    Calls Tryz.prog 18 #[.slice o len cap] w (DrawnR w) := by
  have H : Hid (Code w o len) := h
  clear h
  obtain ⟨i0, hi, iz0, iz1, iz2⟩ := info_parts info_FsOpA
  have hmk : ∀ w : World, (Instr.makeSlice 47 (.int .i64 41) (.int .i64 41)).run Tryz.prog w = .ok (.slice (some ⟨w.heap.size, 0, none⟩) 41 41) (w.alloc (.cells (madeCells #[.int .i64 0, .int .i64 0, .int .i64 0, .int .i64 0, .int .i64 0, .int .i64 0] 246) 26)) := make_rowP Tryz.underlying47 info_FsOpA 41 (by omega) (by omega)
  go_enter Tryz.func18, Tryz.ntmps18
  go_wp2_with fail
  refine (l1Source_any _ o len cap H.out).mono ?_
  rintro e w1 ⟨rfl, hS, hb, hz⟩
  have S1 : Hid (Src w1 w.heap.size o len cap 0) := hS
  have B1 : Hid (Below w.heap.size w w1) := hb
  have hbl : w.heap.size < w1.heap.size := by omega
  clear hS hb H
  go_wp2_with fail
  refine (l13BentView_any _ w.heap.size o len cap 0 S1.out (by omega) hl).mono ?_
  rintro e w2 ⟨m, ao, cp, a1, rfl, hm, ha1, ⟨V, hV⟩, hS2, hT2⟩
  have hp2 := hS2.pos
  have hz2 : Hid (w1.heap.size ≤ w2.heap.size) := hT2.size
  have hbl2 : w.heap.size < w2.heap.size := by have := hz2.out; omega
  have V2 : Hid (Row w2 w1.heap.size 2 m V (.slice ao m cp) ∧ But w.heap.size w1 w2 ∧ Src w2 w.heap.size o len cap a1) := ⟨hV, hT2, hS2⟩
  clear hV hS2 hT2 S1
  have D0 : Hid (Draw w2 w.heap.size o len cap 26 6 0 (.slice (some ⟨w2.heap.size, 0, none⟩) 0 0) a1 (w2.alloc (.cells #[] 26))) := ⟨⟨[], OwnM.lit0 _ _ _ _ rfl⟩, V2.out.2.2.alloc _, (But.refl _ _).alloc _⟩
  go_wp2_with fail
  refine (l1Next_any _ w.heap.size o len cap a1 12 D0.out.src (by omega) hl).mono ?_
  rintro e w3 ⟨r, rfl, p0, p1, hS, hT⟩
  have p2 : r < 12 := p1 (by omega)
  obtain ⟨k0, rfl⟩ : ∃ k : Nat, r = k := ⟨r.toNat, by omega⟩
  have D1 : Hid (Draw w2 w.heap.size o len cap 26 6 0 (.slice (some ⟨w2.heap.size, 0, none⟩) 0 0) (a1 + 1) w3) := ⟨⟨[], OwnM.but (OwnM.lit0 w2 w2.heap.size 26 6 rfl) hT hbl2⟩, hS, D0.out.but.trans hT⟩
  clear hS hT D0 p0 p1
  go_wp2
  go_loopw [6, 7] (fun v k wr => ∃ (n z : Nat) (bo : Option Addr) (bp : Nat) (a2 : Int), v = .slice bo n bp ∧ k = .int .i64 z ∧ n + z ≤ 11 ∧ a2 + 10 * z ≤ a1 + 121 ∧ Hid (Draw w2 w.heap.size o len cap 26 6 n (.slice bo n bp) a2 wr)) (fun _ k _ => (intOf k).toNat)
  case atStart => exact ⟨0, k0, _, _, a1 + 1, rfl, rfl, by omega, by omega, D1⟩
  case round =>
    clear D1
    obtain ⟨n0, z, bo, bp, a2, rfl, rfl, hnz, haz, HD⟩ := hrel
    by_cases hz : 0 < z
    case neg =>
      obtain rfl : z = 0 := by omega
      go_wp2_with fail
      refine (l1Next_any _ w.heap.size o len cap a2 14 HD.out.src (by omega) hl).mono ?_
      rintro e w4 ⟨r, rfl, p0, p1, hS, hT⟩
      have p2 : r < 14 := p1 (by omega)
      obtain ⟨L, hL⟩ := HD.out.own
      have D4 : Hid (OwnM w4 w2.heap.size 26 6 (.slice bo n0 bp) n0 L ∧ Src w4 w.heap.size o len cap (a2 + 1) ∧ But w.heap.size w2 w4) := ⟨hL.but hT hbl2, hS, HD.out.but.trans hT⟩
      clear hS hT HD hL p1
      by_cases h0 : r = 0
      · subst h0
        go_wp2_with fail
        refine (l13Bent_any _ w.heap.size o len cap (a2 + 1) D4.out.2.1 (by omega) hl).mono ?_
        rintro e w5 ⟨kd, d, n, td, tn, vv, a3, rfl, ha3, hS, hT⟩
        have D5 : Hid (OwnM w5 w2.heap.size 26 6 (.slice bo n0 bp) n0 L ∧ Src w5 w.heap.size o len cap a3 ∧ But w.heap.size w2 w5) := ⟨D4.out.1.but hT hbl2, hS, D4.out.2.2.trans hT⟩
        have hsz : w2.heap.size ≤ w5.heap.size := D5.out.2.2.size
        clear hS hT D4
        go_wp2_with (at_builtin; refine wpList_appX 26 i0 (.agg #[.int .i64 0, .int .i64 0, .int .i64 0, .int .i64 0, .int .i64 0, .int .i64 0]) 6 48 rfl _ _ 47 rfl Tryz.underlying47 hi iz0 iz1 iz2 rfl (by omega) (by omega) _ w2.heap.size n0 L (.slice bo n0 bp) rfl (D5.out.1.later (below_alloc _ _)) 0 1 (fun p => [kd, d, n, td, tn, vv].getD p 0) _ rfl (row_lit6 _ kd d n td tn vv _ _ (by simp)) (by omega) (by simp; omega) ?_; intro ao6 cp6 w6 O6 G6 _)
        have K6 := Src.keepT V2.out.2.2 (D5.out.2.1.alloc (.cells #[.int .i64 kd, .int .i64 d, .int .i64 n, .int .i64 td, .int .i64 tn, .int .i64 vv] 26)) (D5.out.2.2.alloc _) G6 (fun r e => (D5.out.1.block r e).1)
        have HV6 := hidR (V2.out.1.turnedC K6.2 hbl)
        have HB6 := hidR (And.intro (V2.out.2.1.trans K6.2) O6)
        clear O6 G6 K6 D5 V2
        have BX := hidR (but_below B1.out HB6.out.1)
        go_wp2
        refine bodyPost_ret (v := .tuple #[.slice ao m cp, .slice ao6 (n0 + 1) cp6]) (by simp [results, Tryz.results18, go_sem]) rfl ?_
        exact ⟨m, V, ao, cp, n0 + 1, _, ao6, cp6, rfl, hm, by omega, own_formR HB6.out.2, HV6.out.mono (by omega), HB6.out.2.rowL.1.mono (by omega), BX.out⟩
      have d0 : (r == 0) = false := beq_eq_false_iff_ne.2 h0
      by_cases h1 : r = 1
      · subst h1
        have HV6 := hidR ((V2.out.1.turnedC D4.out.2.2 hbl).alloc (.cells (madeCells #[.int .i64 0, .int .i64 0, .int .i64 0, .int .i64 0, .int .i64 0, .int .i64 0] 246) 26))
        have hsz : w2.heap.size ≤ w4.heap.size := D4.out.2.2.size
        have HM := hidR (row_madeF w4 26 (B := w.heap.size) (by omega))
        have BX := hidR ((but_below B1.out (V2.out.2.1.trans D4.out.2.2)).alloc (by omega) (.cells (madeCells #[.int .i64 0, .int .i64 0, .int .i64 0, .int .i64 0, .int .i64 0, .int .i64 0] 246) 26))
        clear D4 V2 h0
        go_wp2
        refine bodyPost_ret (v := .tuple #[.slice ao m cp, .slice (some ⟨w4.heap.size, 0, none⟩) 41 41]) (by simp [results, Tryz.results18, go_sem]) rfl ?_
        exact ⟨m, V, ao, cp, 41, _, _, _, rfl, hm, by omega, ⟨Nat.le_refl _, Or.inr ⟨_, rfl⟩⟩, HV6.out.mono (by omega), HM.out, BX.out⟩
      have d1 : (r == 1) = false := beq_eq_false_iff_ne.2 h1
      have HV6 := hidR (V2.out.1.turnedC D4.out.2.2 hbl)
      have HB6 := hidR (And.intro (V2.out.2.1.trans D4.out.2.2) D4.out.1)
      have BX := hidR (but_below B1.out HB6.out.1)
      clear D4 V2 h0 h1
      go_wp2
      refine bodyPost_ret (v := .tuple #[.slice ao m cp, .slice bo n0 bp]) (by simp [results, Tryz.results18, go_sem]) rfl ?_
      exact ⟨m, V, ao, cp, n0, _, bo, bp, rfl, hm, by omega, own_formR HB6.out.2, HV6.out.mono (by omega), HB6.out.2.rowL.1.mono (by omega), BX.out⟩
    have dz : decide (0 < z) = true := decide_eq_true hz
    have hwz : IntKind.i64.wrap ((z : Int) - 1) = ((z - 1 : Nat) : Int) := by simp [IntKind.wrap, IntKind.bits, IntKind.signed]; omega
    go_wp2_with fail
    refine (l13Draw_any _ w.heap.size o len cap a2 HD.out.src (by omega) hl).mono ?_
    rintro e w5 ⟨kd, d, n, td, tn, vv, a3, rfl, _, ha3, hS, hT⟩
    obtain ⟨L, hL⟩ := HD.out.own
    have D5 : Hid (OwnM w5 w2.heap.size 26 6 (.slice bo n0 bp) n0 L ∧ Src w5 w.heap.size o len cap a3 ∧ But w.heap.size w2 w5) := ⟨hL.but hT hbl2, hS, HD.out.but.trans hT⟩
    have hsz : w2.heap.size ≤ w5.heap.size := D5.out.2.2.size
    clear hL hS hT HD
    go_wp2_with (at_builtin; refine wpList_appX 26 i0 (.agg #[.int .i64 0, .int .i64 0, .int .i64 0, .int .i64 0, .int .i64 0, .int .i64 0]) 6 48 rfl _ _ 47 rfl Tryz.underlying47 hi iz0 iz1 iz2 rfl (by omega) (by omega) _ w2.heap.size n0 L (.slice bo n0 bp) rfl (D5.out.1.later (below_alloc _ _)) 0 1 (fun p => [kd, d, n, td, tn, vv].getD p 0) _ rfl (row_lit6 _ kd d n td tn vv _ _ (by simp)) (by omega) (by simp; omega) ?_; intro ao6 cp6 w6 O6 G6 _)
    have K6 := Src.keepT V2.out.2.2 (D5.out.2.1.alloc (.cells #[.int .i64 kd, .int .i64 d, .int .i64 n, .int .i64 td, .int .i64 tn, .int .i64 vv] 26)) (D5.out.2.2.alloc _) G6 (fun r e => (D5.out.1.block r e).1)
    have D6 : Hid (Draw w2 w.heap.size o len cap 26 6 (n0 + 1) (.slice ao6 (n0 + 1) cp6) a3 w6) := ⟨⟨_, O6⟩, K6.1, K6.2⟩
    clear O6 G6 K6 D5
    go_wp2
    go_roundw
    case rel => exact ⟨n0 + 1, z - 1, ao6, cp6, a3, rfl, by go_num, by omega, by omega, D6⟩
    case measure => simp [intOf]; omega
end Go.Proofs.YtnchaccgenfhoaaGreat

namespace Go.Proofs.YtnchaccgenfhoaaGreat
open Go.RowKit

set_option maxRecDepth 100000 in
theorem clonePairs_any (n : Nat) (F : Nat → Int) (v : Value) (B : Nat) (w : World) (h : Row w B 2 n F v) (hn : n ≤ 1048576) :
    Calls Tryz.prog 46 #[v] w fun e w' => ∃ v', e = .returned v' ∧ Own w' w.heap.size 61 2 n F v' ∧ Below w.heap.size w w' := by
  obtain ⟨ao, cp, rfl⟩ := h.form
  cases ao with
  | none =>
    have e0 : n = 0 := by
      rcases Nat.eq_zero_or_pos n with e | e
      · exact e
      · obtain ⟨ao, cp', hv, h⟩ := h
        obtain ⟨g, o, rfl, _⟩ := h e
        simp at hv
    subst e0
    clear h
    have he : ∀ w : World, (binOp .eql 24 (.slice none 0 cp) (.slice none 0 0)).run Tryz.prog w = .ok (.bool true) w := fun _ => rfl
    go_enter Tryz.func46, Tryz.ntmps46
    go_wp2
    go_ret
    exact ⟨_, rfl, Own.nil _ _ _ _ _, Below.refl _ _⟩
  | some a =>
    have H : Hid (Row w B 2 n F (.slice (some a) n cp)) := h
    clear h
    have he : ∀ w : World, (binOp .eql 24 (.slice (some a) n cp) (.slice none 0 0)).run Tryz.prog w = .ok (.bool false) w := fun _ => rfl
    obtain ⟨i0, hi, hz0, hz1, hz2⟩ := info_parts infoz_Pair
    go_enter Tryz.func46, Tryz.ntmps46
    go_wp2_with (at_builtin; refine wpList_append_own _ rfl _ _ 24 rfl w.heap.size 61 i0 (.agg #[.int .i64 0, .int .i64 0]) 2 16 Tryz.underlying24 hi hz0 hz1 hz2 rfl (by decide) _ 0 [] rfl (own_empty w 61 2) a n cp (vals F (n * 2)) rfl (vals_length _ _) (row_cells (H.out.alloc _)) (vals_one _ _) ?c3 ?c4 ?c5 ?_)
    case c3 => unfold maxLen; omega
    case c4 => omega
    case c5 => simp
    intro v' w1 ho hg _
    go_wp2
    go_ret
    refine ⟨v', rfl, ?_, below_grownBy (below_alloc w _) (by simp) (fun b hb => by simp [Value.ownBlock] at hb; omega) hg⟩
    simpa [Own] using ho

/-- A list of pairs of a call's own. -/
def VwO (w : World) (B : Nat) (R : Prs) (u : Value) : Prop := Row w B 2 R.length (rowL R) u ∧ Free w (R.length * 2) u
theorem VwO.keptG {w w' : World} {B : Nat} {R : Prs} {u : Value} (h : VwO w B R u) (hs : w.heap.size ≤ w'.heap.size) (hb : ∀ k, 0 < R.length → u.ownBlock = some k → k < w.heap.size → w'.heap[k]? = w.heap[k]?) : VwO w' B R u := by
  by_cases hn : R.length = 0
  · obtain ⟨ao, cp, rfl⟩ := h.1.form
    exact ⟨⟨_, _, rfl, fun q => by omega⟩, fun g o n c e p hp => by omega⟩
  · refine ⟨h.1.kept hs (fun k hk hq => hb k (by omega) hk hq), fun g o n c e p hp => ?_⟩
    have hg : u.ownBlock = some g := by rw [e]; rfl
    exact (World.frozen?_of_block (w := w) (a := ⟨g, o + p, none⟩) (hb g (by omega) hg (h.1.lt (by omega) g hg).2)).trans (h.2 g o n c e p hp)
theorem VwO.later {w w' : World} {B : Nat} {R : Prs} {u : Value} (h : VwO w B R u) (hb : Below w.heap.size w w') : VwO w' B R u := h.keptG hb.size (fun k _ _ hk => hb.block k hk)
theorem BlkF.set3 {x : World} {b : Nat} {a0 a1 a2 a3 : Value} (h : BlkF x b a0 a1 a2 a3) (u : Value) : BlkF (x.setCell ⟨b, 3, none⟩ u) b a0 a1 a2 u := by
  obtain ⟨⟨h0, h1, h2, h3⟩, f0, f1, f2, f3⟩ := h
  exact ⟨⟨(World.cell?_setCell_other _ _ _ _ (by simp)).trans h0, (World.cell?_setCell_other _ _ _ _ (by simp)).trans h1, (World.cell?_setCell_other _ _ _ _ (by simp)).trans h2, World.cell?_setCell_same _ _ _ h3⟩, by simpa using f0, by simpa using f1, by simpa using f2, by simpa using f3⟩
theorem BlkF.set2 {x : World} {b : Nat} {a0 a1 a2 a3 : Value} (h : BlkF x b a0 a1 a2 a3) (u : Value) : BlkF (x.setCell ⟨b, 2, none⟩ u) b a0 a1 u a3 := by
  obtain ⟨⟨h0, h1, h2, h3⟩, f0, f1, f2, f3⟩ := h
  exact ⟨⟨(World.cell?_setCell_other _ _ _ _ (by simp)).trans h0, (World.cell?_setCell_other _ _ _ _ (by simp)).trans h1, World.cell?_setCell_same _ _ _ h2, (World.cell?_setCell_other _ _ _ _ (by simp)).trans h3⟩, by simpa using f0, by simpa using f1, by simpa using f2, by simpa using f3⟩
/-- A run under way: its box b, the view in a list of its own, how many came to nothing; the answer's box rb. -/
def RnE (w : World) (rb b : Nat) (R : Prs) (v : Int) (u : Value) (X : World) : Prop := FBk X rb ∧ BlkF X b (.int .i64 0) (.int .i64 0) (.int .i64 v) u ∧ VwO X (rb + 1) R u ∧ Below w.heap.size w X ∧ (rb < b ∧ w.heap.size ≤ rb ∧ ∀ k, 0 < R.length → u.ownBlock = some k → k ≠ b)
theorem RnE.later {w X X' : World} {rb b : Nat} {R : Prs} {v : Int} {u : Value} (h : RnE w rb b R v u X) (hb : Below X.heap.size X X') : RnE w rb b R v u X' := ⟨h.1.later hb, h.2.1.later hb, h.2.2.1.later hb, h.2.2.2.1.trans (hb.mono h.2.2.2.1.size), h.2.2.2.2⟩
theorem FBk.set {x : World} {b g : Nat} (h : FBk x b) (hne : b ≠ g) (j : Nat) (u : Value) : FBk (x.setCell ⟨g, j, none⟩ u) b := h.kept (Below.heap_setCell x ⟨g, j, none⟩ u b hne)
/-- The view behind an operation is put into the run's box. -/
theorem RnE.view {w X : World} {rb b : Nat} {R R' : Prs} {v : Int} {u u' : Value} (h : RnE w rb b R v u X) (hu : VwO X (b + 1) R' u') : RnE w rb b R' v u' (X.setCell ⟨b, 3, none⟩ u') := by
  obtain ⟨h1, h2, h3, h4, h5, h6, h7⟩ := h
  have ks : ∀ k, k ≠ b → (X.setCell ⟨b, 3, none⟩ u').heap[k]? = X.heap[k]? := fun k hk => Below.heap_setCell X ⟨b, 3, none⟩ u' k hk
  have hv : ∀ k, 0 < R'.length → u'.ownBlock = some k → b + 1 ≤ k := fun k hl hk => (hu.1.lt (by omega) k hk).1
  refine ⟨h1.set (by omega) 3 u', h2.set3 u', ?_, h4.setCell (by simp; omega) _, h5, h6, fun k hl hk => by have := hv k hl hk; omega⟩
  have h8 := hu.keptG (w' := X.setCell ⟨b, 3, none⟩ u') (by simp) (fun k hl hk _ => ks k (by have := hv k hl hk; omega))
  exact ⟨h8.1.mono (by omega), h8.2⟩
theorem RnE.count {w X : World} {rb b : Nat} {R : Prs} {v : Int} {u : Value} (h : RnE w rb b R v u X) (v' : Int) : RnE w rb b R v' u (X.setCell ⟨b, 2, none⟩ (.int .i64 v')) := by
  obtain ⟨h1, h2, h3, h4, h5, h6, h7⟩ := h
  exact ⟨h1.set (by omega) 2 _, h2.set2 _, h3.keptG (by simp) (fun k hl hk _ => Below.heap_setCell X ⟨b, 2, none⟩ _ k (h7 k hl hk)), h4.setCell (by simp; omega) _, h5, h6, h7⟩
set_option maxRecDepth 100000 in
set_option maxHeartbeats 4000000 in
theorem implRunFs_is (y z : Value) (B B2 n m : Nat) (F G : Nat → Int) (c v : Int) (R : Prs) (w : World) (h : Row w B 2 n F y) (hz : Row w B2 6 m G z) (hn : n ≤ 1048576) (hm : m ≤ 1048576) (ha : RunAns n F m G c v R) :
    Calls Tryz.prog 19 #[y, z] w (ResFs w c 0 v R) := by
  obtain ⟨zo, zc, rfl⟩ := hz.form
  have H : Hid (Row w B 2 n F y ∧ Row w B2 6 m G (.slice zo m zc)) := ⟨h, hz⟩
  have HB0 : Hid (FBk (w.alloc zeroFs) w.heap.size ∧ Below w.heap.size w (w.alloc zeroFs)) := ⟨FBk.new _ _ _ _ _, below_alloc _ _⟩
  clear h hz
  rcases ha with ⟨h1, rfl, rfl, rfl⟩ | ⟨h1, h2, rfl, rfl, rfl⟩ | ⟨h1, h2, rfl, hp⟩
  · obtain ⟨f, hf⟩ : ∃ f, fsF n F = f := ⟨_, rfl⟩
    have HF : Hid (fsF n F = f ∧ True) := ⟨hf, trivial⟩
    have dd : (f != 0) = true := bne_iff_ne.2 (by rw [← hf]; exact h1)
    rw [hf]
    clear h1 hf
    go_enter Tryz.func19, Tryz.ntmps19
    go_wp2_with fail
    refine (implFs_is _ B n F _ (H.out.1.later HB0.out.2) hn).mono ?_
    rintro e w1 ⟨rfl, q1⟩
    rw [HF.out.1]
    have H1 : Hid (FBk w1 w.heap.size ∧ Below w.heap.size w w1) := ⟨HB0.out.1.later q1, HB0.out.2.trans (q1.mono HB0.out.2.size)⟩
    clear q1
    go_wp2_with (refine wpList_storeF rfl _ _ rfl w.heap.size _ _ _ _ rfl rfl H1.out.1 (by kernel_rfl) ?_)
    refine bodyPost_ret (v := .agg #[.int .i64 f, .int .i64 0, .int .i64 0, .slice none 0 0]) (results_fs Tryz.results19 _ _ _ _ _ _ _ rfl H1.out.1) rfl (res_nil _ (below_row H1.out.2 (by omega) _))
  · obtain ⟨f, hf⟩ : ∃ f, opsT m G = f := ⟨_, rfl⟩
    have HF : Hid (fsF n F = 0 ∧ opsT m G = f ∧ True) := ⟨h1, hf, trivial⟩
    have dd : (f != 0) = true := bne_iff_ne.2 (by rw [← hf]; exact h2)
    rw [hf]
    clear h1 h2 hf
    go_enter Tryz.func19, Tryz.ntmps19
    go_wp2_with fail
    refine (implFs_is _ B n F _ (H.out.1.later HB0.out.2) hn).mono ?_
    rintro e w1 ⟨rfl, q1⟩
    rw [HF.out.1]
    have H1 : Hid (FBk w1 w.heap.size ∧ Below w.heap.size w w1) := ⟨HB0.out.1.later q1, HB0.out.2.trans (q1.mono HB0.out.2.size)⟩
    clear q1
    go_wp2_with fail
    refine (opsFault_is _ B2 m G _ (H.out.2.later H1.out.2) hm).mono ?_
    rintro e w2 ⟨rfl, q2⟩
    rw [HF.out.2.1]
    have H2 : Hid (FBk w2 w.heap.size ∧ Below w.heap.size w w2) := ⟨H1.out.1.later q2, H1.out.2.trans (q2.mono H1.out.2.size)⟩
    clear q2 H1
    go_wp2_with (refine wpList_storeF rfl _ _ rfl w.heap.size _ _ _ _ rfl rfl H2.out.1 (by kernel_rfl) ?_)
    refine bodyPost_ret (v := .agg #[.int .i64 f, .int .i64 0, .int .i64 0, .slice none 0 0]) (results_fs Tryz.results19 _ _ _ _ _ _ _ rfl H2.out.1) rfl (res_nil _ (below_row H2.out.2 (by omega) _))
  have HF : Hid (fsF n F = 0 ∧ opsT m G = 0 ∧ True) := ⟨h1, h2, trivial⟩
  have hgp := good_of_pairs (fsF_zero h1).1
  have HG : Hid (GoodP (listOf F n) ∧ (∀ i, i < m → opAt G i = 0) ∧ runP (listOf F n) G m = (R, v)) := ⟨hgp, (opsT_zero h2).2, hp⟩
  have hm40 := (opsT_zero h2).1
  clear h1 h2 hp hgp
  go_enter Tryz.func19, Tryz.ntmps19
  go_wp2_with fail
  refine (implFs_is _ B n F _ (H.out.1.later HB0.out.2) hn).mono ?_
  rintro e w1 ⟨rfl, q1⟩
  rw [HF.out.1]
  have H1 : Hid (FBk w1 w.heap.size ∧ Below w.heap.size w w1) := ⟨HB0.out.1.later q1, HB0.out.2.trans (q1.mono HB0.out.2.size)⟩
  clear q1
  go_wp2_with fail
  refine (opsFault_is _ B2 m G _ (H.out.2.later H1.out.2) hm).mono ?_
  rintro e w2 ⟨rfl, q2⟩
  rw [HF.out.2.1]
  have H2 : Hid (FBk w2 w.heap.size ∧ Below w.heap.size w w2) := ⟨H1.out.1.later q2, H1.out.2.trans (q2.mono H1.out.2.size)⟩
  clear q2 H1
  go_wp2_with fail
  refine (clonePairs_any n F _ B _ (H.out.1.later H2.out.2) hn).mono ?_
  rintro e w3 ⟨u0, rfl, hu0, q3⟩
  obtain ⟨uo, uc, rfl⟩ := hu0.form
  have HE0 : Hid (RnE w w.heap.size w3.heap.size (runP (listOf F n) G 0).1 0 (.slice uo n uc) (w3.alloc (.cells #[.int .i64 0, .int .i64 0, .int .i64 0, .slice uo n uc] 30))) := by
    have hl : (runP (listOf F n) G 0).1.length = n := listOf_length F n
    have hv : VwO w3 w2.heap.size (runP (listOf F n) G 0).1 (.slice uo n uc) := ⟨by rw [hl]; exact row_eqP (Own.row hu0).1 (fun p hp => (rowL_listOf hp).symm), by rw [hl]; exact (Own.row hu0).2⟩
    have hw2 := H2.out.1.lt
    refine ⟨(H2.out.1.later q3).later (below_alloc _ _), BlkF.new _ _ _ _ _ _, ?_, (H2.out.2.trans (q3.mono H2.out.2.size)).alloc (Nat.le_trans H2.out.2.size q3.size) _, Nat.lt_of_lt_of_le hw2 q3.size, Nat.le_refl _, fun k hl hk => by have := (hv.1.lt (by omega) k hk).2; omega⟩
    have h8 := hv.later (below_alloc w3 (.cells #[.int .i64 0, .int .i64 0, .int .i64 0, .slice uo n uc] 30))
    exact ⟨h8.1.mono (by omega), h8.2⟩
  have HLN : Hid ((runP (listOf F n) G 0).1.length = n) := listOf_length F n
  clear hu0 q3 H2
  go_wp2
  go_loopw [28] (fun i wr => ∃ (k : Nat) (u : Value), k ≤ m ∧ i = .int .i64 k ∧ Hid (RnE w w.heap.size w3.heap.size (runP (listOf F n) G k).1 (runP (listOf F n) G k).2 u wr)) (fun i _ => m - (intOf i).toNat)
  case atStart => exact ⟨0, _, Nat.zero_le _, rfl, HE0.out⟩
  case round =>
    obtain ⟨k, u, hk, rfl, HS⟩ := hrel
    clear HE0
    by_cases hlt : k < m
    case neg =>
      obtain rfl : k = m := by omega
      have HE := HS.out
      rw [HG.out.2.2] at HE
      have HE1 : Hid (RnE w w.heap.size w3.heap.size R v u wr) := HE
      obtain ⟨ao, cp, rfl⟩ := HE1.out.2.2.1.1.form
      obtain ⟨⟨c0, c1, c2, c3⟩, _⟩ := HE1.out.2.1
      clear HE HS
      go_wp2_with (refine wpList_storeF rfl _ _ rfl w.heap.size _ _ _ _ rfl rfl HE1.out.1 (by kernel_rfl) ?_)
      exact bodyPost_ret (v := .agg #[.int .i64 0, .int .i64 0, .int .i64 v, .slice ao R.length cp]) (results_fs Tryz.results19 _ _ _ _ _ _ _ rfl HE1.out.1) rfl (res_end HE1.out.2.2.1.1 HE1.out.2.2.1.2 HE1.out.2.2.2.1 (by omega) (Nat.lt_succ_self _) _)
    have HROW := H.out.2.later HS.out.2.2.2.1
    obtain ⟨g, o, rfl, _, hg, y0, y1, y2, y3, y4, y5⟩ := HROW.at6 hlt
    obtain ⟨n0, N0⟩ : ∃ x, G (k * 6) = x := ⟨_, rfl⟩
    rw [N0] at y0
    obtain ⟨n1, N1⟩ : ∃ x, G (k * 6 + 1) = x := ⟨_, rfl⟩
    rw [N1] at y1
    obtain ⟨n2, N2⟩ : ∃ x, G (k * 6 + 2) = x := ⟨_, rfl⟩
    rw [N2] at y2
    obtain ⟨n3, N3⟩ : ∃ x, G (k * 6 + 3) = x := ⟨_, rfl⟩
    rw [N3] at y3
    obtain ⟨n4, N4⟩ : ∃ x, G (k * 6 + 4) = x := ⟨_, rfl⟩
    rw [N4] at y4
    obtain ⟨n5, N5⟩ : ∃ x, G (k * 6 + 5) = x := ⟨_, rfl⟩
    rw [N5] at y5
    have hop : opF n0 n1 n2 n3 n4 n5 = 0 := by have := HG.out.2.1 k hlt; unfold opAt at this; rwa [N0, N1, N2, N3, N4, N5] at this
    obtain ⟨a, ha⟩ : ∃ a, applyP (runP (listOf F n) G k).1 n0 n1 n2 n3 n4 n5 = a := ⟨_, rfl⟩
    obtain ⟨r', v', R'⟩ := a
    have HA : Hid (opF n0 n1 n2 n3 n4 n5 = 0 ∧ applyP (runP (listOf F n) G k).1 n0 n1 n2 n3 n4 n5 = (r', v', R')) := ⟨hop, ha⟩
    have HST : Hid (runP (listOf F n) G (k + 1) = (R', if r' ≠ 0 then (runP (listOf F n) G k).2 + 1 else (runP (listOf F n) G k).2)) := by
      unfold Hid
      rw [runP]
      unfold apAt
      rw [N0, N1, N2, N3, N4, N5, ha]
    have HGk : Hid (GoodP (runP (listOf F n) G k).1) := run_good HG.out.1 (fun i hi => HG.out.2.1 i (by omega))
    have hcnt := run_cnt (listOf F n) G k
    generalize runP (listOf F n) G k = P at HS HA HST HGk hcnt
    obtain ⟨Rk, vk⟩ := P
    simp only at HS HA HST HGk hcnt
    have hrl := HGk.out.len
    obtain ⟨ko, kc, rfl⟩ := HS.out.2.2.1.1.form
    obtain ⟨⟨c0, c1, c2, c3⟩, _⟩ := HS.out.2.1
    have hbx := HS.out.2.1.lt
    have HS1 : Hid (RnE w w.heap.size w3.heap.size Rk vk (.slice ko Rk.length kc) (wr.alloc (opO n0 n1 n2 n3 n4 n5))) := HS.out.later (below_alloc _ _)
    clear N0 N1 N2 N3 N4 N5 hop ha HROW
    go_wp2_with fail
    refine (applyOp_is _ (w.heap.size + 1) Rk.length (rowL Rk) n0 n1 n2 n3 n4 n5 _ HS1.out.2.2.1.1 (by omega) (pairs_of_good HGk.out) HA.out.1 r' v' R' (by rw [listOf_rowL]; exact HA.out.2)).mono ?_
    rintro e w4 ⟨ao, cp, rfl, hrow, hfree, q4⟩
    have HS2 : Hid (RnE w w.heap.size w3.heap.size Rk vk (.slice ko Rk.length kc) w4 ∧ VwO w4 (w3.heap.size + 1) R' (.slice ao R'.length cp)) := by
      have hb := HS1.out.2.1.lt
      exact ⟨HS1.out.later q4, ⟨hrow.mono (by omega), hfree⟩⟩
    have hw34 : w3.heap.size < w4.heap.size := HS2.out.1.2.1.lt
    clear hrow hfree q4 HS1 HS c0 c1 c2 c3 y0 y1 y2 y3 y4 y5 hbx
    obtain ⟨⟨c0, c1, c2, c3⟩, f0, f1, f2, f3⟩ := HS2.out.1.2.1
    have HS3 : Hid (RnE w w.heap.size w3.heap.size R' vk (.slice ao R'.length cp) (w4.setCell ⟨w3.heap.size, 3, none⟩ (.slice ao R'.length cp))) := HS2.out.1.view HS2.out.2
    have hvk : 0 ≤ vk ∧ vk ≤ 100 := by omega
    obtain ⟨⟨s0, s1, s2, s3⟩, k0, k1, k2, k3⟩ := HS3.out.2.1
    by_cases hr : r' = 0
    · have dr : (r' != 0) = false := by simp [hr]
      have HS4 : Hid (RnE w w.heap.size w3.heap.size (runP (listOf F n) G (k + 1)).1 (runP (listOf F n) G (k + 1)).2 (.slice ao R'.length cp) ((w4.setCell ⟨w3.heap.size, 3, none⟩ (.slice ao R'.length cp)).alloc (.cells #[.int .i64 0, .int .i64 r', .int .i64 v', .slice ao R'.length cp] 30))) := by
        unfold Hid
        rw [HST.out, if_neg (fun q => q hr)]
        exact HS3.out.later (below_alloc _ _)
      clear hr HS2 HS3
      go_wp2
      go_roundw
      case rel => exact ⟨k + 1, .slice ao R'.length cp, by omega, by go_num, HS4.out⟩
      case measure => simp [intOf]; omega
    · have dr : (r' != 0) = true := bne_iff_ne.2 hr
      have HS4 : Hid (RnE w w.heap.size w3.heap.size (runP (listOf F n) G (k + 1)).1 (runP (listOf F n) G (k + 1)).2 (.slice ao R'.length cp) (((w4.setCell ⟨w3.heap.size, 3, none⟩ (.slice ao R'.length cp)).setCell ⟨w3.heap.size, 2, none⟩ (.int .i64 (vk + 1))).alloc (.cells #[.int .i64 0, .int .i64 r', .int .i64 v', .slice ao R'.length cp] 30))) := by
        unfold Hid
        rw [HST.out, if_pos hr]
        exact (HS3.out.count (vk + 1)).later (below_alloc _ _)
      clear hr HS2 HS3
      go_wp2
      go_roundw
      case rel => exact ⟨k + 1, .slice ao R'.length cp, by omega, by go_num, HS4.out⟩
      case measure => simp [intOf]; omega
end Go.Proofs.YtnchaccgenfhoaaGreat

namespace Go.Proofs.YtnchaccgenfhoaaGreat
open Go.RowKit

theorem below_drewA (X : World) : Below X.heap.size X X.drew := ⟨rfl, rfl, rfl, Nat.le_refl _, fun _ _ => rfl⟩
theorem nums_getD (F : Nat → Int) {N p : Nat} (hp : p < N) : (nums F N).getD p 0 = F p := by
  unfold nums
  rw [List.getD_eq_getElem?_getD, List.getElem?_eq_getElem (by simpa using hp)]
  simp
theorem VwO.row {X : World} {B g : Nat} {R : Prs} {u : Value} {cs : Array Value} (h : VwO X B R u) (h2 : ∀ k, 0 < R.length → u.ownBlock = some k → k ≠ g) : VwO (X.setRow g cs) B R u := h.keptG (by rw [size_setRow]; exact Nat.le_refl _) (fun k hl hk _ => heap_setRow _ _ _ _ (h2 k hl hk))
theorem RnE.row {w X : World} {rb b g : Nat} {R : Prs} {v : Int} {u : Value} {cs : Array Value} (h : RnE w rb b R v u X) (hg : b < g) (h2 : ∀ k, 0 < R.length → u.ownBlock = some k → k ≠ g) : RnE w rb b R v u (X.setRow g cs) := by
  obtain ⟨h1, h3, h4, h5, h6, h7, h8⟩ := h
  exact ⟨h1.kept (heap_setRow _ _ _ _ (by omega)), h3.kept (heap_setRow _ _ _ _ (by omega)), h4.row h2, below_row h5 (by omega) _, h6, h7, h8⟩
/-- Behind an operation: the run, the view that the operation left, the box of its answer. -/
def RnX (w : World) (rb b : Nat) (Rk R' : Prs) (vk r' v' : Int) (u : Value) (bx : Nat) (u' : Value) (X : World) : Prop := RnE w rb b Rk vk u X ∧ VwO X (b + 1) R' u' ∧ BlkF X bx (.int .i64 0) (.int .i64 r') (.int .i64 v') u' ∧ b < bx
/-- All but the store of an operation's answer: the run, the view, the box to be stored into. -/
def RnY (w : World) (rb b : Nat) (Rk R' : Prs) (vk : Int) (u : Value) (bx : Nat) (u' : Value) (X : World) : Prop := RnE w rb b Rk vk u X ∧ VwO X (b + 1) R' u' ∧ FBk X bx ∧ b < bx ∧ (∀ k, 0 < Rk.length → u.ownBlock = some k → k ≠ bx) ∧ ∀ k, 0 < R'.length → u'.ownBlock = some k → k ≠ bx
set_option maxRecDepth 100000 in
set_option maxHeartbeats 4000000 in
theorem specRunFs_is (y z : Value) (B B2 n m : Nat) (F G : Nat → Int) (c v : Int) (R : Prs) (w : World) (h : Row w B 2 n F y) (hz : Row w B2 6 m G z) (hn : n ≤ 1048576) (hm : m ≤ 1048576) (ha : RunAns n F m G c v R) :
    Calls Tryz.prog 20 #[y, z] w (ResFs w c 0 v R) := by
  obtain ⟨yo, yc, rfl⟩ := h.form
  obtain ⟨zo, zc, rfl⟩ := hz.form
  have H : Hid (Row w B 2 n F (.slice yo n yc) ∧ Row w B2 6 m G (.slice zo m zc)) := ⟨h, hz⟩
  have HB0 : Hid (FBk (w.alloc zeroFs) w.heap.size ∧ Below w.heap.size w (w.alloc zeroFs)) := ⟨FBk.new _ _ _ _ _, below_alloc _ _⟩
  obtain ⟨i0, hi, hz0, hz1, hz2⟩ := info_parts infoz_Pair
  clear h hz
  rcases ha with ⟨h1, rfl, rfl, rfl⟩ | ⟨h1, h2, rfl, rfl, rfl⟩ | ⟨h1, h2, rfl, hp⟩
  · obtain ⟨f, hf⟩ : ∃ f, fsF n F = f := ⟨_, rfl⟩
    have HF : Hid (fsF n F = f ∧ True) := ⟨hf, trivial⟩
    have dd : (f != 0) = true := bne_iff_ne.2 (by rw [← hf]; exact h1)
    rw [hf]
    clear h1 hf
    go_enter Tryz.func20, Tryz.ntmps20
    go_wp2_with fail
    refine (specFs_is _ B n F _ (H.out.1.later HB0.out.2) hn).mono ?_
    rintro e w1 ⟨rfl, q1⟩
    rw [HF.out.1]
    have H1 : Hid (FBk w1 w.heap.size ∧ Below w.heap.size w w1) := ⟨HB0.out.1.later q1, HB0.out.2.trans (q1.mono HB0.out.2.size)⟩
    clear q1
    go_wp2_with (refine wpList_storeF rfl _ _ rfl w.heap.size _ _ _ _ rfl rfl H1.out.1 (by kernel_rfl) ?_)
    refine bodyPost_ret (v := .agg #[.int .i64 f, .int .i64 0, .int .i64 0, .slice none 0 0]) (results_fs Tryz.results20 _ _ _ _ _ _ _ rfl H1.out.1) rfl (res_nil _ (below_row H1.out.2 (by omega) _))
  · have HF : Hid (fsF n F = 0 ∧ True) := ⟨h1, trivial⟩
    by_cases h40 : 40 < m
    · have d : decide ((m : Int) > 40) = true := decide_eq_true (by omega)
      have HQ : Hid (opsT m G = 2) := by unfold Hid opsT; rw [if_pos h40]
      rw [HQ.out]
      clear h1 h2 h40
      go_enter Tryz.func20, Tryz.ntmps20
      go_wp2_with fail
      refine (specFs_is _ B n F _ (H.out.1.later HB0.out.2) hn).mono ?_
      rintro e w1 ⟨rfl, q1⟩
      rw [HF.out.1]
      have H1 : Hid (FBk w1 w.heap.size ∧ Below w.heap.size w w1) := ⟨HB0.out.1.later q1, HB0.out.2.trans (q1.mono HB0.out.2.size)⟩
      clear q1
      go_wp2_with (refine wpList_storeF rfl _ _ rfl w.heap.size _ _ _ _ rfl rfl H1.out.1 (by kernel_rfl) ?_)
      refine bodyPost_ret (v := .agg #[.int .i64 2, .int .i64 0, .int .i64 0, .slice none 0 0]) (results_fs Tryz.results20 _ _ _ _ _ _ _ rfl H1.out.1) rfl (res_nil _ (below_row H1.out.2 (by omega) _))
    have d : decide ((m : Int) > 40) = false := decide_eq_false (by omega)
    obtain ⟨res, hres⟩ : ∃ res, opsF G m 0 = res := ⟨_, rfl⟩
    have hT : opsT m G = res := by unfold opsT; rw [if_neg h40, hres]
    rw [hT] at h2 ⊢
    have HR : Hid (opsF G m 0 = res ∧ res ≠ 0) := ⟨hres, h2⟩
    clear h1 h2 hT hres
    go_enter Tryz.func20, Tryz.ntmps20
    go_wp2_with fail
    refine (specFs_is _ B n F _ (H.out.1.later HB0.out.2) hn).mono ?_
    rintro e w1 ⟨rfl, q1⟩
    rw [HF.out.1]
    have H1 : Hid (FBk w1 w.heap.size ∧ Below w.heap.size w w1) := ⟨HB0.out.1.later q1, HB0.out.2.trans (q1.mono HB0.out.2.size)⟩
    clear q1
    go_wp2
    go_loopw [6] (fun i wr => ∃ k : Nat, k ≤ m ∧ i = .int .i64 k ∧ Hid (opsF G (m - k) k = res ∧ FBk wr w.heap.size ∧ Below w.heap.size w wr)) (fun i _ => m - (intOf i).toNat)
    case atStart => exact ⟨0, Nat.zero_le _, rfl, HR.out.1, H1.out.1, H1.out.2⟩
    case round =>
      obtain ⟨k, hk, rfl, HS⟩ := hrel
      by_cases hlt : k < m
      case neg =>
        exfalso
        have := HS.out.1
        rw [show m - k = 0 by omega] at this
        exact HR.out.2 this.symm
      have HROW := H.out.2.later HS.out.2.2
      obtain ⟨g, o, rfl, _, hg, y0, y1, y2, y3, y4, y5⟩ := HROW.at6 hlt
      obtain ⟨n0, N0⟩ : ∃ x, G (k * 6) = x := ⟨_, rfl⟩
      rw [N0] at y0
      obtain ⟨n1, N1⟩ : ∃ x, G (k * 6 + 1) = x := ⟨_, rfl⟩
      rw [N1] at y1
      obtain ⟨n2, N2⟩ : ∃ x, G (k * 6 + 2) = x := ⟨_, rfl⟩
      rw [N2] at y2
      obtain ⟨n3, N3⟩ : ∃ x, G (k * 6 + 3) = x := ⟨_, rfl⟩
      rw [N3] at y3
      obtain ⟨n4, N4⟩ : ∃ x, G (k * 6 + 4) = x := ⟨_, rfl⟩
      rw [N4] at y4
      obtain ⟨n5, N5⟩ : ∃ x, G (k * 6 + 5) = x := ⟨_, rfl⟩
      rw [N5] at y5
      obtain ⟨f, hf⟩ : ∃ f, opF n0 n1 n2 n3 n4 n5 = f := ⟨_, rfl⟩
      have HFQ : Hid (opF n0 n1 n2 n3 n4 n5 = f) := hf
      have hat : opAt G k = f := by unfold opAt; rw [N0, N1, N2, N3, N4, N5, hf]
      clear N0 N1 N2 N3 N4 N5 hf HROW
      by_cases h0 : f = 0
      · subst h0
        have HON : Hid (opsF G (m - (k + 1)) (k + 1) = res) := by
          have := HS.out.1
          rw [opsF_on (by omega) hat] at this
          rwa [show m - k - 1 = m - (k + 1) by omega] at this
        clear hat
        go_wp2_with fail
        refine (specFsOp_any n0 n1 n2 n3 n4 n5 _).mono ?_
        rintro e w3 ⟨rfl, q3⟩
        rw [HFQ.out]
        have HB2 : Hid (FBk w3 w.heap.size ∧ Below w.heap.size w w3) := ⟨HS.out.2.1.later q3, HS.out.2.2.trans (q3.mono HS.out.2.2.size)⟩
        clear q3 HS
        go_wp2
        go_roundw
        case rel => exact ⟨k + 1, by omega, by go_num, HON.out, HB2.out⟩
        case measure => simp [intOf]; omega
      · have HQ : Hid (res = f) := by
          have := HS.out.1
          rw [opsF_bad (by omega) hat h0] at this
          exact this.symm
        have df : (res != 0) = true := bne_iff_ne.2 (by rw [HQ.out]; exact h0)
        clear hat h0
        go_wp2_with fail
        refine (specFsOp_any n0 n1 n2 n3 n4 n5 _).mono ?_
        rintro e w3 ⟨rfl, q3⟩
        rw [HFQ.out, ← HQ.out]
        have HB2 : Hid (FBk w3 w.heap.size ∧ Below w.heap.size w w3) := ⟨HS.out.2.1.later q3, HS.out.2.2.trans (q3.mono HS.out.2.2.size)⟩
        clear q3 HS
        go_wp2_with (refine wpList_storeF rfl _ _ rfl w.heap.size _ _ _ _ rfl rfl HB2.out.1 (by kernel_rfl) ?_)
        refine bodyPost_ret (v := .agg #[.int .i64 res, .int .i64 0, .int .i64 0, .slice none 0 0]) (results_fs Tryz.results20 _ _ _ _ _ _ _ rfl HB2.out.1) rfl (res_nil _ (below_row HB2.out.2 (by omega) _))
  have HF : Hid (fsF n F = 0 ∧ True) := ⟨h1, trivial⟩
  have hgp := good_of_pairs (fsF_zero h1).1
  have hops := opsT_zero h2
  have HG : Hid (GoodP (listOf F n) ∧ (∀ i, i < m → opAt G i = 0) ∧ runP (listOf F n) G m = (R, v)) := ⟨hgp, hops.2, hp⟩
  have hm40 := hops.1
  have d : decide ((m : Int) > 40) = false := decide_eq_false (by omega)
  have HR : Hid (opsF G m 0 = 0) := by
    have := h2
    unfold opsT at this
    rwa [if_neg (by omega)] at this
  have hn200 : n ≤ 200 := by have := hgp.len; rwa [listOf_length] at this
  clear h1 h2 hp hgp hops
  obtain ⟨res, hres⟩ : ∃ res : Int, res = 0 := ⟨0, rfl⟩
  have HRZ : Hid (res = 0) := hres
  go_enter Tryz.func20, Tryz.ntmps20
  go_wp2_with fail
  refine (specFs_is _ B n F _ (H.out.1.later HB0.out.2) hn).mono ?_
  rintro e w1 ⟨rfl, q1⟩
  rw [HF.out.1]
  have H1 : Hid (FBk w1 w.heap.size ∧ Below w.heap.size w w1) := ⟨HB0.out.1.later q1, HB0.out.2.trans (q1.mono HB0.out.2.size)⟩
  clear q1
  go_wp2
  go_loopw [6] (fun i wr => ∃ k : Nat, k ≤ m ∧ i = .int .i64 k ∧ Hid (opsF G (m - k) k = res ∧ FBk wr w.heap.size ∧ Below w.heap.size w wr)) (fun i _ => m - (intOf i).toNat)
  case atStart => exact ⟨0, Nat.zero_le _, rfl, HR.out.trans hres.symm, H1.out.1, H1.out.2⟩
  case round =>
    obtain ⟨k, hk, rfl, HS⟩ := hrel
    clear hres H1
    by_cases hlt : k < m
    case pos =>
      have HROW := H.out.2.later HS.out.2.2
      obtain ⟨g, o, rfl, _, hg, y0, y1, y2, y3, y4, y5⟩ := HROW.at6 hlt
      obtain ⟨n0, N0⟩ : ∃ x, G (k * 6) = x := ⟨_, rfl⟩
      rw [N0] at y0
      obtain ⟨n1, N1⟩ : ∃ x, G (k * 6 + 1) = x := ⟨_, rfl⟩
      rw [N1] at y1
      obtain ⟨n2, N2⟩ : ∃ x, G (k * 6 + 2) = x := ⟨_, rfl⟩
      rw [N2] at y2
      obtain ⟨n3, N3⟩ : ∃ x, G (k * 6 + 3) = x := ⟨_, rfl⟩
      rw [N3] at y3
      obtain ⟨n4, N4⟩ : ∃ x, G (k * 6 + 4) = x := ⟨_, rfl⟩
      rw [N4] at y4
      obtain ⟨n5, N5⟩ : ∃ x, G (k * 6 + 5) = x := ⟨_, rfl⟩
      rw [N5] at y5
      obtain ⟨f, hf⟩ : ∃ f, opF n0 n1 n2 n3 n4 n5 = f := ⟨_, rfl⟩
      have HFQ : Hid (opF n0 n1 n2 n3 n4 n5 = f) := hf
      have hat : opAt G k = f := by unfold opAt; rw [N0, N1, N2, N3, N4, N5, hf]
      clear N0 N1 N2 N3 N4 N5 hf HROW
      have h0 : f = 0 := by rw [← hat]; exact HG.out.2.1 k hlt
      subst h0
      have HON : Hid (opsF G (m - (k + 1)) (k + 1) = res) := by
        have := HS.out.1
        rw [opsF_on (by omega) hat] at this
        rwa [show m - k - 1 = m - (k + 1) by omega] at this
      clear hat
      go_wp2_with fail
      refine (specFsOp_any n0 n1 n2 n3 n4 n5 _).mono ?_
      rintro e w3 ⟨rfl, q3⟩
      rw [HFQ.out]
      have HB2 : Hid (FBk w3 w.heap.size ∧ Below w.heap.size w w3) := ⟨HS.out.2.1.later q3, HS.out.2.2.trans (q3.mono HS.out.2.2.size)⟩
      clear q3 HS
      go_wp2
      go_roundw
      case rel => exact ⟨k + 1, by omega, by go_num, HON.out, HB2.out⟩
      case measure => simp [intOf]; omega
    obtain rfl : m = k := by omega
    have HB1 : Hid (FBk wr w.heap.size ∧ Below w.heap.size w wr) := HS.out.2
    have HO1 : Hid (OwnM (wr.alloc (.cells #[] 61)) wr.heap.size 61 2 (.slice (some ⟨wr.heap.size, 0, none⟩) 0 0) 0 [] ∧ Row (wr.alloc (.cells #[] 61)) B 2 n F (.slice yo n yc)) := ⟨OwnM.lit0 _ _ _ _ rfl, (H.out.1.later HS.out.2.2).alloc _⟩
    clear HS HR HRZ
    have hlw : w.heap.size < wr.heap.size := HB1.out.1.lt
    go_wp2_with (at_builtin; refine wpList_app 61 i0 (.agg #[.int .i64 0, .int .i64 0]) 2 16 rfl _ _ 24 rfl Tryz.underlying24 hi hz0 hz1 hz2 rfl (by omega) (by omega) _ wr.heap.size 0 [] (.slice (some ⟨wr.heap.size, 0, none⟩) 0 0) rfl HO1.out.1 B n F (.slice yo n yc) rfl HO1.out.2 (by omega) (by simp) ?_; intro uo uc w4 O4 G4; rw [List.nil_append, Nat.zero_add] at O4; rw [Nat.zero_add])
    have hw4 : w.heap.size < w4.heap.size := by have := G4.size; simp only [World.size_alloc] at this; omega
    have HE0 : Hid (RnE w w.heap.size w4.heap.size (runP (listOf F n) G 0).1 0 (.slice uo n uc) (w4.alloc (.cells #[.int .i64 0, .int .i64 0, .int .i64 0, .slice uo n uc] 30))) := by
      have hl : (runP (listOf F n) G 0).1.length = n := listOf_length F n
      have hr4 := OwnM.rowL O4
      have hv : VwO w4 wr.heap.size (runP (listOf F n) G 0).1 (.slice uo n uc) := by
        refine ⟨?_, by rw [hl]; exact hr4.2⟩
        rw [hl]
        exact row_eqP hr4.1 (fun p hp => by rw [nums_getD F hp]; exact (rowL_listOf hp).symm)
      have h8 := hv.later (below_alloc w4 (.cells #[.int .i64 0, .int .i64 0, .int .i64 0, .slice uo n uc] 30))
      have hfb : FBk w4 w.heap.size := (HB1.out.1.alloc (.cells #[] 61)).kept (G4.block _ (by simp; omega) (fun e => by have : w.heap.size = wr.heap.size := Option.some.inj e; omega))
      have hbw : Below w.heap.size w w4 := (HB1.out.2.alloc HB1.out.2.size (.cells #[] 61)).trans ⟨G4.os, G4.tape, G4.output, G4.size, fun k hk => G4.block k (by simp; omega) (fun e => by have : k = wr.heap.size := Option.some.inj e; omega)⟩
      exact ⟨hfb.alloc _, BlkF.new _ _ _ _ _ _, ⟨h8.1.mono (by omega), h8.2⟩, hbw.alloc (Nat.le_of_lt hw4) _, hw4, Nat.le_refl _, fun k hl' hk => by have := (hv.1.lt (by omega) k hk).2; omega⟩
    have HLN : Hid ((runP (listOf F n) G 0).1.length = n) := listOf_length F n
    clear O4 G4 HO1 HB1 hlw
    generalize hb8 : w4.heap.size = b8 at HE0 hw4
    go_wp2
    go_loopw [9] (fun i wr => ∃ (k : Nat) (u : Value), k ≤ m ∧ i = .int .i64 k ∧ Hid (RnE w w.heap.size b8 (runP (listOf F n) G k).1 (runP (listOf F n) G k).2 u wr)) (fun i _ => m - (intOf i).toNat)
    case atStart => exact ⟨0, _, Nat.zero_le _, rfl, HE0.out⟩
    case round =>
      obtain ⟨k, u, hk, rfl, HS⟩ := hrel
      clear HE0
      by_cases hlt : k < m
      case neg =>
        obtain rfl : k = m := by omega
        have HE := HS.out
        rw [HG.out.2.2] at HE
        have HE1 : Hid (RnE w w.heap.size b8 R v u wr) := HE
        obtain ⟨ao, cp, rfl⟩ := HE1.out.2.2.1.1.form
        obtain ⟨⟨c0, c1, c2, c3⟩, _⟩ := HE1.out.2.1
        clear HE HS
        go_wp2_with (refine wpList_storeF rfl _ _ rfl w.heap.size _ _ _ _ rfl rfl HE1.out.1 (by kernel_rfl) ?_)
        exact bodyPost_ret (v := .agg #[.int .i64 0, .int .i64 0, .int .i64 v, .slice ao R.length cp]) (results_fs Tryz.results20 _ _ _ _ _ _ _ rfl HE1.out.1) rfl (res_end HE1.out.2.2.1.1 HE1.out.2.2.1.2 HE1.out.2.2.2.1 (by omega) (Nat.lt_succ_self _) _)
      have HROW := H.out.2.later HS.out.2.2.2.1
      obtain ⟨g, o, rfl, _, hg, y0, y1, y2, y3, y4, y5⟩ := HROW.at6 hlt
      obtain ⟨n0, N0⟩ : ∃ x, G (k * 6) = x := ⟨_, rfl⟩
      rw [N0] at y0
      obtain ⟨n1, N1⟩ : ∃ x, G (k * 6 + 1) = x := ⟨_, rfl⟩
      rw [N1] at y1
      obtain ⟨n2, N2⟩ : ∃ x, G (k * 6 + 2) = x := ⟨_, rfl⟩
      rw [N2] at y2
      obtain ⟨n3, N3⟩ : ∃ x, G (k * 6 + 3) = x := ⟨_, rfl⟩
      rw [N3] at y3
      obtain ⟨n4, N4⟩ : ∃ x, G (k * 6 + 4) = x := ⟨_, rfl⟩
      rw [N4] at y4
      obtain ⟨n5, N5⟩ : ∃ x, G (k * 6 + 5) = x := ⟨_, rfl⟩
      rw [N5] at y5
      have hop : opF n0 n1 n2 n3 n4 n5 = 0 := by have := HG.out.2.1 k hlt; unfold opAt at this; rwa [N0, N1, N2, N3, N4, N5] at this
      obtain ⟨a, ha⟩ : ∃ a, applyP (runP (listOf F n) G k).1 n0 n1 n2 n3 n4 n5 = a := ⟨_, rfl⟩
      obtain ⟨r', v', R'⟩ := a
      have HA : Hid (opF n0 n1 n2 n3 n4 n5 = 0 ∧ applyP (runP (listOf F n) G k).1 n0 n1 n2 n3 n4 n5 = (r', v', R')) := ⟨hop, ha⟩
      have HST : Hid (runP (listOf F n) G (k + 1) = (R', if r' ≠ 0 then (runP (listOf F n) G k).2 + 1 else (runP (listOf F n) G k).2)) := by
        unfold Hid
        rw [runP]
        unfold apAt
        rw [N0, N1, N2, N3, N4, N5, ha]
      have HGk : Hid (GoodP (runP (listOf F n) G k).1) := run_good HG.out.1 (fun i hi => HG.out.2.1 i (by omega))
      have hcnt := run_cnt (listOf F n) G k
      generalize runP (listOf F n) G k = P at HS HA HST HGk hcnt
      obtain ⟨Rk, vk⟩ := P
      simp only at HS HA HST HGk hcnt
      have hrl := HGk.out.len
      obtain ⟨ko, kc, rfl⟩ := HS.out.2.2.1.1.form
      have HOB : Hid (Blk6O wr g (o + k * 6) (.int .i64 n0) (.int .i64 n1) (.int .i64 n2) (.int .i64 n3) (.int .i64 n4) (.int .i64 n5)) := ⟨⟨y0, y1, y2, y3, y4, y5⟩, trivial⟩
      have hob := op_bounds hop
      have HOBD : Hid ((0 ≤ n1 ∧ n1 ≤ 9) ∧ (0 ≤ n2 ∧ n2 ≤ 5) ∧ (0 ≤ n3 ∧ n3 ≤ 9) ∧ (0 ≤ n4 ∧ n4 ≤ 5)) := hob.2
      have hvk : 0 ≤ vk ∧ vk ≤ 100 := by omega
      clear N0 N1 N2 N3 N4 N5 hop ha hob y0 y1 y2 y3 y4 y5
      go_upto_region 16 with fail
      go_cut [10] (fun s wx => ∃ bx ao cp, s = .pointer (some ⟨bx, 0, none⟩) ∧ Hid (RnX w w.heap.size b8 Rk R' vk r' v' (.slice ko Rk.length kc) bx (.slice ao R'.length cp) wx))
      case first =>
        refine wp_region_held_drew (S := fun X => X.cell? ⟨b8, 3, none⟩ = some (.slice ko Rk.length kc)) (by kernel_rfl) HS.out.2.1.1.2.2.2 (fun hS => ?_)
        have HS1 : Hid (RnE w w.heap.size b8 Rk vk (.slice ko Rk.length kc) wr.drew ∧ Blk6O wr.drew g (o + k * 6) (.int .i64 n0) (.int .i64 n1) (.int .i64 n2) (.int .i64 n3) (.int .i64 n4) (.int .i64 n5)) := ⟨HS.out.later (below_drewA _), HOB.out.later (below_drewA _)⟩
        clear HS HOB HROW
        generalize wr.drew = z0 at hS HS1 ⊢
        refine tkH 0 ?_ hS (fun wx hx => ?_) ?_; rotate_left
        · go_simp; try with_reducible rfl
        refine tkH 1 ?_ hS (fun wx hx => ?_) ?_; rotate_left
        · go_simp; try with_reducible rfl
        refine tkH 2 ?_ hS (fun wx hx => ?_) ?_; rotate_left
        · go_simp; try with_reducible rfl
        refine tkH 3 ?_ hS (fun wx hx => ?_) ?_; rotate_left
        · go_simp; try with_reducible rfl
        refine tkH 4 ?_ hS (fun wx hx => ?_) ?_; rotate_left
        · go_simp; try with_reducible rfl
        refine wpAnyH_ready (rs := [5, 6]) (by kernel_rfl) (by simp) ?_
        refine AllReadyH.cons rfl (fun K hK => ?_) (AllReadyH.cons rfl (fun K hK => ?_) AllReadyH.nil)
        · go_simp
          go_wp2_with fail
          refine (l14Apply_is Rk _ g (o + k * 6) n0 n1 n2 n3 n4 n5 _ ⟨⟨HS1.out.1.2.2.1.1.mono (Nat.zero_le _), by omega⟩, HS1.out.2, HGk.out.vals, HOBD.out⟩ HA.out.1 HGk.out r' v' R' HA.out.2).mono ?_
          rintro e z1 ⟨ao, cp, rfl, hrow, hfree, q⟩
          have HY : Hid (RnE w w.heap.size b8 Rk vk (.slice ko Rk.length kc) z1 ∧ VwO z1 (b8 + 1) R' (.slice ao R'.length cp)) := ⟨HS1.out.1.later q, ⟨hrow.mono (by have := HS1.out.1.2.1.lt; omega), hfree⟩⟩
          have hS1 : z1.cell? ⟨b8, 3, none⟩ = some (.slice ko Rk.length kc) := HY.out.1.2.1.1.2.2.2
          clear hrow hfree q hS HS1
          go_wp2_with fail
          refine hK.out _ _ hS1 (fun hS => ?_)
          clear hK K
          clear hS1
          refine rdH 6 (fun K hK => ?_)
          go_simp
          have HX : Hid (RnY w w.heap.size b8 Rk R' vk (.slice ko Rk.length kc) z1.heap.size (.slice ao R'.length cp) (z1.alloc zeroFs)) := ⟨HY.out.1.later (below_alloc _ _), HY.out.2.later (below_alloc _ _), FBk.new _ _ _ _ _, HY.out.1.2.1.lt, fun k hl hk => by have := (HY.out.1.2.2.1.1.lt (by omega) k hk).2; omega, fun k hl hk => by have := (HY.out.2.1.lt (by omega) k hk).2; omega⟩
          have hS2 : (z1.alloc zeroFs).cell? ⟨b8, 3, none⟩ = some (.slice ko Rk.length kc) := HX.out.1.2.1.1.2.2.2
          clear hS HY
          refine hK.out _ _ hS2 (fun hS => ?_)
          clear hK K
          clear hS2
          generalize hbx : z1.heap.size = bx at HX
          generalize z1.alloc zeroFs = X5 at HX hS ⊢
          refine rdH 7 (fun K hK => ?_)
          refine step_storeF rfl _ _ rfl (bx) _ _ _ _ rfl rfl HX.out.2.2.1 (by kernel_rfl) ?_
          have HXX : Hid (RnX w w.heap.size b8 Rk R' vk r' v' (.slice ko Rk.length kc) (bx) (.slice ao R'.length cp) (X5.setRow (bx) #[.int .i64 0, .int .i64 r', .int .i64 v', .slice ao R'.length cp])) := ⟨HX.out.1.row HX.out.2.2.2.1 HX.out.2.2.2.2.1, HX.out.2.1.row HX.out.2.2.2.2.2, HX.out.2.2.1.blk _ _ _ _, HX.out.2.2.2.1⟩
          have hS9 : (X5.setRow (bx) #[.int .i64 0, .int .i64 r', .int .i64 v', .slice ao R'.length cp]).cell? ⟨b8, 3, none⟩ = some (.slice ko Rk.length kc) := HXX.out.1.2.1.1.2.2.2
          clear hS
          refine hK.out _ _ hS9 (fun hS => ?_)
          clear hK K
          clear hS9
          refine wpAnyH_done (by kernel_rfl) ?_ _
          go_simp
          go_wp2_with fail
          go_meet
          case rel => exact ⟨_, ao, cp, rfl, HXX⟩
        · go_simp
          have HX0 : Hid (RnE w w.heap.size b8 Rk vk (.slice ko Rk.length kc) (z0.alloc zeroFs) ∧ Blk6O (z0.alloc zeroFs) g (o + k * 6) (.int .i64 n0) (.int .i64 n1) (.int .i64 n2) (.int .i64 n3) (.int .i64 n4) (.int .i64 n5) ∧ FBk (z0.alloc zeroFs) z0.heap.size ∧ b8 < z0.heap.size ∧ (∀ k, 0 < Rk.length → (Value.slice ko Rk.length kc).ownBlock = some k → k ≠ z0.heap.size)) := ⟨HS1.out.1.later (below_alloc _ _), HS1.out.2.later (below_alloc _ _), FBk.new _ _ _ _ _, HS1.out.1.2.1.lt, fun k hl hk => by have := (HS1.out.1.2.2.1.1.lt (by omega) k hk).2; omega⟩
          have hS2 : (z0.alloc zeroFs).cell? ⟨b8, 3, none⟩ = some (.slice ko Rk.length kc) := HX0.out.1.2.1.1.2.2.2
          clear hS HS1
          refine hK.out _ _ hS2 (fun hS => ?_)
          clear hK K
          clear hS2
          generalize hbx : z0.heap.size = bx at HX0
          generalize z0.alloc zeroFs = X5 at HX0 hS ⊢
          refine rdH 5 (fun K hK => ?_)
          go_simp
          go_wp2_with fail
          refine (l14Apply_is Rk _ g (o + k * 6) n0 n1 n2 n3 n4 n5 _ ⟨⟨HX0.out.1.2.2.1.1.mono (Nat.zero_le _), by omega⟩, HX0.out.2.1, HGk.out.vals, HOBD.out⟩ HA.out.1 HGk.out r' v' R' HA.out.2).mono ?_
          rintro e z1 ⟨ao, cp, rfl, hrow, hfree, q⟩
          have HX : Hid (RnY w w.heap.size b8 Rk R' vk (.slice ko Rk.length kc) bx (.slice ao R'.length cp) z1) := ⟨HX0.out.1.later q, ⟨hrow.mono (by have := HX0.out.1.2.1.lt; omega), hfree⟩, HX0.out.2.2.1.later q, HX0.out.2.2.2.1, HX0.out.2.2.2.2, fun k hl hk => by have := (hrow.lt (by omega) k hk).1; have := HX0.out.2.2.1.lt; omega⟩
          have hS1 : z1.cell? ⟨b8, 3, none⟩ = some (.slice ko Rk.length kc) := HX.out.1.2.1.1.2.2.2
          clear hrow hfree q hS HX0
          go_wp2_with fail
          refine hK.out _ _ hS1 (fun hS => ?_)
          clear hK K
          clear hS1
          refine rdH 7 (fun K hK => ?_)
          refine step_storeF rfl _ _ rfl (bx) _ _ _ _ rfl rfl HX.out.2.2.1 (by kernel_rfl) ?_
          have HXX : Hid (RnX w w.heap.size b8 Rk R' vk r' v' (.slice ko Rk.length kc) (bx) (.slice ao R'.length cp) (z1.setRow (bx) #[.int .i64 0, .int .i64 r', .int .i64 v', .slice ao R'.length cp])) := ⟨HX.out.1.row HX.out.2.2.2.1 HX.out.2.2.2.2.1, HX.out.2.1.row HX.out.2.2.2.2.2, HX.out.2.2.1.blk _ _ _ _, HX.out.2.2.2.1⟩
          have hS9 : (z1.setRow (bx) #[.int .i64 0, .int .i64 r', .int .i64 v', .slice ao R'.length cp]).cell? ⟨b8, 3, none⟩ = some (.slice ko Rk.length kc) := HXX.out.1.2.1.1.2.2.2
          clear hS
          refine hK.out _ _ hS9 (fun hS => ?_)
          clear hK K
          clear hS9
          refine wpAnyH_done (by kernel_rfl) ?_ _
          go_simp
          go_wp2_with fail
          go_meet
          case rel => exact ⟨_, ao, cp, rfl, HXX⟩
      case rest =>
      obtain ⟨bx, ao, cp, rfl, HS2⟩ := hcut
      clear HS HOB HROW
      obtain ⟨⟨c0, c1, c2, c3⟩, f0, f1, f2, f3⟩ := HS2.out.1.2.1
      obtain ⟨⟨d0, d1, d2, d3⟩, _⟩ := HS2.out.2.2.1
      have HS3 : Hid (RnE w w.heap.size b8 R' vk (.slice ao R'.length cp) (wc.setCell ⟨b8, 3, none⟩ (.slice ao R'.length cp))) := HS2.out.1.view HS2.out.2.1
      have hne : b8 < bx := HS2.out.2.2.2
      have hbt : BlkF (wc.setCell ⟨b8, 3, none⟩ (.slice ao R'.length cp)) bx (.int .i64 0) (.int .i64 r') (.int .i64 v') (.slice ao R'.length cp) := HS2.out.2.2.1.kept (Below.heap_setCell wc ⟨b8, 3, none⟩ _ _ (by simp; omega))
      obtain ⟨⟨t0, t1, t2, t3⟩, _⟩ := hbt
      obtain ⟨⟨s0, s1, s2, s3⟩, k0, k1, k2, k3⟩ := HS3.out.2.1
      have hlx : b8 < wc.heap.size := HS2.out.1.2.1.lt
      have hlx4 : bx < wc.heap.size := HS2.out.2.2.1.lt
      by_cases hr : r' = 0
      · have dr : (r' != 0) = false := by simp [hr]
        have HS4 : Hid (RnE w w.heap.size b8 (runP (listOf F n) G (k + 1)).1 (runP (listOf F n) G (k + 1)).2 (.slice ao R'.length cp) (wc.setCell ⟨b8, 3, none⟩ (.slice ao R'.length cp))) := by
          unfold Hid
          rw [HST.out, if_neg (fun q => q hr)]
          exact HS3.out
        clear hr HS2 HS3
        go_wp2
        go_roundw
        case rel => exact ⟨k + 1, .slice ao R'.length cp, by omega, by go_num, HS4.out⟩
        case measure => simp [intOf]; omega
      · have dr : (r' != 0) = true := bne_iff_ne.2 hr
        have HS4 : Hid (RnE w w.heap.size b8 (runP (listOf F n) G (k + 1)).1 (runP (listOf F n) G (k + 1)).2 (.slice ao R'.length cp) ((wc.setCell ⟨b8, 3, none⟩ (.slice ao R'.length cp)).setCell ⟨b8, 2, none⟩ (.int .i64 (vk + 1)))) := by
          unfold Hid
          rw [HST.out, if_pos hr]
          exact HS3.out.count (vk + 1)
        clear hr HS2 HS3
        go_wp2
        go_roundw
        case rel => exact ⟨k + 1, .slice ao R'.length cp, by omega, by go_num, HS4.out⟩
        case measure => simp [intOf]; omega
end Go.Proofs.YtnchaccgenfhoaaGreat

namespace Go.Proofs.YtnchaccgenfhoaaGreat
open Go.RowKit

theorem hidA {p : Prop} (h : p) : Hid p := h
theorem field_fs0 (c r v : Int) (ao : Option Addr) (n cp : Nat) (w : World) : (Instr.field 30 (.agg #[.int .i64 c, .int .i64 r, .int .i64 v, .slice ao n cp]) 0).run Tryz.prog w = .ok (.int .i64 c) w := by kernel_rfl
end Go.Proofs.YtnchaccgenfhoaaGreat

namespace Go.Proofs.YtnchaccgenfhoaaGreat
open Go.RowKit

set_option maxHeartbeats 400000 in
theorem lwAt_none (w : World) (o : Option Addr) (cap : Nat) (i n : Int) (hi : 0 ≤ i ∧ i ≤ 1000) (hn : 2 ≤ n ∧ n ≤ 200) :
    Calls Tryz.prog 16 #[.slice o 0 cap, .int .i64 i, .int .i64 n] w fun e w' => e = .returned (.int .i64 ((i * 7) % n)) ∧ w' = w := by
  obtain ⟨h1, h2⟩ := hi
  obtain ⟨h3, h4⟩ := hn
  go_enter Tryz.func16, Tryz.ntmps16
  go_wp2
  go_ret
  exact ⟨rfl, rfl⟩
set_option maxHeartbeats 800000 in
theorem lwAt_some (w : World) (g off : Nat) (len cap : Nat) (i n x : Int) (hi : 0 ≤ i ∧ i ≤ 1000) (hn : 2 ≤ n ∧ n ≤ 200) (hl : 0 < len) (hl2 : len ≤ 1048576)
    (hc : w.cell? ⟨g, off + (i % len).toNat, none⟩ = some (.int .u8 x)) (x0 : 0 ≤ x) (x1 : x < 256) :
    Calls Tryz.prog 16 #[.slice (some ⟨g, off, none⟩) len cap, .int .i64 i, .int .i64 n] w fun e w' => e = .returned (.int .i64 ((x + i / len * 3) % n)) ∧ ∃ m, w' = w.drewN m := by
  obtain ⟨h3, h4⟩ := hi
  obtain ⟨h5, h6⟩ := hn
  have q0 : 0 ≤ i / len := Int.ediv_nonneg h3 (by omega)
  have q1 : i / len ≤ i := Int.ediv_le_self _ h3
  have r0 : 0 ≤ i % len := Int.emod_nonneg _ (by omega)
  have r1 : i % len < len := Int.emod_lt_of_pos _ (by omega)
  have hl0 : ((len : Int) == 0) = false := beq_eq_false_iff_ne.2 (by omega)
  go_enter Tryz.func16, Tryz.ntmps16
  go_wp2
  go_quiet (fail)
  go_wp2
  go_ret
  exact ⟨rfl, _, rfl⟩
theorem lwAt_any (w : World) (o : Option Addr) (len cap : Nat) (i n : Int) (h : Code w o len) (hl : len ≤ 1048576) (hi : 0 ≤ i ∧ i ≤ 1000) (hn : 2 ≤ n ∧ n ≤ 200) :
    Calls Tryz.prog 16 #[.slice o len cap, .int .i64 i, .int .i64 n] w fun e w' => ∃ r : Int, e = .returned (.int .i64 r) ∧ (0 ≤ r ∧ r < n) ∧ ∃ m, w' = w.drewN m := by
  by_cases h0 : len = 0
  · subst h0
    exact (lwAt_none w o cap i n hi hn).mono fun e w' ⟨he, hw⟩ => ⟨_, he, ⟨Int.emod_nonneg _ (by omega), Int.emod_lt_of_pos _ (by omega)⟩, 0, hw⟩
  · have r0 : 0 ≤ i % len := Int.emod_nonneg _ (by omega)
    have r1 : i % len < len := Int.emod_lt_of_pos _ (by omega)
    obtain ⟨g, off, x, rfl, hc, x0, x1⟩ := h (i % len).toNat (by omega)
    exact (lwAt_some w g off len cap i n x hi hn (by omega) hl hc x0 x1).mono fun e w' ⟨he, hw⟩ => ⟨_, he, ⟨Int.emod_nonneg _ (by omega), Int.emod_lt_of_pos _ (by omega)⟩, hw⟩
set_option maxHeartbeats 400000 in
theorem lwAt_one (w : World) (o : Option Addr) (len cap : Nat) (i : Int) :
    Calls Tryz.prog 16 #[.slice o len cap, .int .i64 i, .int .i64 1] w fun e w' => e = .returned (.int .i64 0) ∧ w' = w := by
  go_enter Tryz.func16, Tryz.ntmps16
  go_wp2
  go_ret
  exact ⟨rfl, rfl⟩
theorem lwAt_le (w : World) (o : Option Addr) (len cap : Nat) (i n : Int) (h : Code w o len) (hl : len ≤ 1048576) (hi : 0 ≤ i ∧ i ≤ 1000) (hn : 1 ≤ n ∧ n ≤ 200) :
    Calls Tryz.prog 16 #[.slice o len cap, .int .i64 i, .int .i64 n] w fun e w' => ∃ r : Int, e = .returned (.int .i64 r) ∧ (0 ≤ r ∧ r < n) ∧ ∃ m, w' = w.drewN m := by
  by_cases h1 : n = 1
  · subst h1
    exact (lwAt_one w o len cap i).mono fun e w' ⟨he, hw⟩ => ⟨0, he, ⟨by omega, by omega⟩, 0, hw⟩
  · exact lwAt_any w o len cap i n h hl hi ⟨by omega, hn.2⟩
end Go.Proofs.YtnchaccgenfhoaaGreat

namespace Go.Proofs.YtnchaccgenfhoaaGreat
open Go.RowKit

theorem wrapR_i64 (n : Int) (h0 : 0 ≤ n) (h1 : n ≤ 9223372036854775807) : IntKind.i64.wrap n = n := by
  unfold IntKind.wrap
  simp only [IntKind.bits, IntKind.signed]
  simp [Int.emod_eq_of_lt (show 0 ≤ n by omega) (show n < 18446744073709551616 by omega)]
  omega
theorem field_fs2 (c r v : Int) (ao : Option Addr) (n cp : Nat) (w : World) : (Instr.field 30 (.agg #[.int .i64 c, .int .i64 r, .int .i64 v, .slice ao n cp]) 2).run Tryz.prog w = .ok (.int .i64 v) w := by kernel_rfl
/-- What the law stands on: the code, the view, the list, what the program's RunFs answered. -/
structure EnvR (w : World) (o : Option Addr) (len b5 : Nat) (c v : Int) (m : Nat) (V : Nat → Int) (view : Value) (k : Nat) (G : Nat → Int) (list : Value) (R : Prs) (pv : Value) (x : World) : Prop where
  below : Below w.heap.size w x
  code : Code x o len
  row : Row x 0 2 m V view
  ops : Row x 0 6 k G list
  got : BlkF x b5 (.int .i64 c) (.int .i64 0) (.int .i64 v) pv
  res : Row x 0 2 R.length (rowL R) pv
theorem EnvR.later {w : World} {o : Option Addr} {len b5 : Nat} {c v : Int} {m : Nat} {V : Nat → Int} {view : Value} {k : Nat} {G : Nat → Int} {list : Value} {R : Prs} {pv : Value} {x x' : World} (h : EnvR w o len b5 c v m V view k G list R pv x) (hb : Below x.heap.size x x') : EnvR w o len b5 c v m V view k G list R pv x' :=
  ⟨h.below.trans (hb.mono h.below.size), h.code.later hb, h.row.later hb, h.ops.later hb, h.got.later hb, h.res.later hb⟩
theorem row_suf {w : World} {k cut bp g : Nat} {G : Nat → Int} (h : Row w 0 6 k G (.slice (some ⟨g, 0, none⟩) k bp)) (hk : cut ≤ k) : Row w 0 6 (k - cut) (fun p => G (cut * 6 + p)) (.slice (some ⟨g, cut * 6, none⟩) (k - cut) (bp - cut)) := by
  by_cases q : cut < k
  · have := h.tail q (bp - cut)
    rwa [Nat.zero_add] at this
  · exact ⟨_, _, rfl, fun z => by omega⟩
theorem row_end {w : World} {k cut bp g : Nat} {G : Nat → Int} (hp : k ≤ bp) (hb : bp = cut) : Row w 0 6 (k - cut) (fun p => G (cut * 6 + p)) (.slice (some ⟨g, 0, none⟩) (k - cut) (bp - cut)) := ⟨_, _, rfl, fun z => by omega⟩
theorem Row.rowG {w : World} {B m n g : Nat} {F : Nat → Int} {v : Value} (h : Row w B m n F v) (hg : 0 < n → ∀ k, v.ownBlock = some k → k ≠ g) (cs : Array Value) : Row (w.setRow g cs) B m n F v := by
  rcases Nat.eq_zero_or_pos n with e | e
  · subst e
    obtain ⟨ao, cp, hv, _⟩ := h
    exact ⟨ao, cp, hv, fun q => absurd q (Nat.lt_irrefl 0)⟩
  · exact h.kept (by rw [size_setRow]; exact Nat.le_refl _) (fun k hk _ => heap_setRow _ _ _ _ (hg e k hk))
theorem below_drewR (X : World) : Below X.heap.size X X.drew := ⟨rfl, rfl, rfl, Nat.le_refl _, fun _ _ => rfl⟩
theorem same_row (R : Prs) : true = true ↔ AlikeP 2 R.length (rowL R) R.length (rowL R) := ⟨fun _ => ⟨rfl, fun _ _ => rfl⟩, fun _ => rfl⟩
/-- What the second part left: the box of its answer, its view. -/
def OutR (X0 : World) (b8 : Nat) (v2 : Int) (R : Prs) (u : Value) (x : World) : Prop := Below X0.heap.size X0 x ∧ BlkF x b8 (.int .i64 0) (.int .i64 0) (.int .i64 v2) u ∧ Row x 0 2 R.length (rowL R) u
set_option maxRecDepth 100000 in
set_option maxHeartbeats 16000000 in
theorem fnRunFs_walk (o : Option Addr) (len cap : Nat) (w : World) (hc : Code w o len) (hl0 : len ≤ maxLen) :
    Calls Tryz.prog 5 #[.slice o len cap] w fun e w' => e = .returned (.bool true) ∧ Below w.heap.size w w' := by
  have HC0 : Hid (Code w o len) := hc
  have hml : maxLen = 9223372036854775807 := rfl
  by_cases hbig : (1048576 : Int) < len
  · have d : decide ((1048576 : Int) < (len : Int)) = true := decide_eq_true hbig
    go_enter Tryz.func5, Tryz.ntmps5
    go_wp2_with fail
    refine (lwBigP_is _ _ _ _ _ d).mono ?_
    rintro e w9 ⟨rfl, hw9⟩
    obtain rfl := hw9.symm
    go_wp2
    go_ret
    exact ⟨rfl, Below.refl _ _⟩
  have dz : decide ((1048576 : Int) < (len : Int)) = false := decide_eq_false hbig
  have hl : len ≤ 1048576 := by omega
  have HD := drawRunFs_any w o len cap hc hl
  clear hc hbig hml hl0
  go_enter Tryz.func5, Tryz.ntmps5
  go_wp2_with fail
  refine (lwBigP_is _ _ _ _ _ dz).mono ?_
  rintro e w9 ⟨rfl, hw9⟩
  obtain rfl := hw9.symm
  go_wp2_with fail
  refine HD.mono ?_
  clear HD
  rintro e w1 ⟨m, V, ao, cp, k, G, bo, bp, rfl, hm, hk, ⟨hkp, hbo⟩, hV, hG, q1⟩
  have HX := hidA (And.intro hV (And.intro hG q1))
  clear hV hG q1 dz
  rcases hbo with ⟨rfl, rfl⟩ | ⟨g, rfl⟩
  · obtain rfl : k = 0 := by omega
    obtain ⟨c, v, R, hans, hR⟩ := RunAns.get m V 0 G
    have HR : Hid (R.length ≤ 200) := hR
    have HA : Hid (RunAns m V 0 G c v R) := hans
    clear hans hR
    go_wp2_with fail
    refine (implRunFs_is _ _ 0 0 m 0 V G c v R _ (HX.out.1.mono (Nat.zero_le _)) (HX.out.2.1.mono (Nat.zero_le _)) (by omega) (by omega) HA.out).mono ?_
    rintro e w3 ⟨pa, pb, rfl, hrow, _, q3⟩
    have E3 : Hid (EnvR w o len w3.heap.size c v m V (.slice ao m cp) 0 G (.slice none 0 0) R (.slice pa R.length pb) (w3.alloc (.cells #[.int .i64 c, .int .i64 0, .int .i64 v, .slice pa R.length pb] 30))) :=
      ⟨(HX.out.2.2.trans (q3.mono HX.out.2.2.size)).alloc (Nat.le_trans HX.out.2.2.size q3.size) _, (HC0.out.later ((HX.out.2.2.trans (q3.mono HX.out.2.2.size)).alloc (Nat.le_trans HX.out.2.2.size q3.size) (.cells #[.int .i64 c, .int .i64 0, .int .i64 v, .slice pa R.length pb] 30))), ((HX.out.1.mono (Nat.zero_le _)).later q3).alloc _, ((HX.out.2.1.mono (Nat.zero_le _)).later q3).alloc _, BlkF.new w3 _ _ _ _ _, (hrow.mono (Nat.zero_le _)).alloc _⟩
    clear hrow q3 HX HC0
    obtain ⟨⟨p0, p1, p2, p3⟩, _⟩ := E3.out.got
    by_cases hc0 : c = 0
    case neg =>
      have dc : (c != 0) = true := bne_iff_ne.2 hc0
      have ff := field_fs0
      clear hc0
      go_wp2_with fail
      refine wp_region_held_drew (S := fun Z : World => BlkF Z w3.heap.size (.int .i64 c) (.int .i64 0) (.int .i64 v) (.slice pa R.length pb)) (by kernel_rfl) (E3.out.got.later (Below.refl _ _).drew) (fun hS => ?_)
      have H4 := hidA (E3.out.later (Below.refl _ _).drew)
      clear E3 p0 p1 p2 p3
      generalize (w3.alloc (.cells #[.int .i64 c, .int .i64 0, .int .i64 v, .slice pa R.length pb] 30)).drew = z0 at hS H4 ⊢
      refine tkH 0 ?_ hS (fun wx hx => ?_) ?_; rotate_left
      · obtain ⟨⟨hx0, hx1, hx2, hx3⟩, _⟩ := hx; go_simp; try with_reducible rfl
      refine tkH 1 ?_ hS (fun wx hx => ?_) ?_; rotate_left
      · obtain ⟨⟨hx0, hx1, hx2, hx3⟩, _⟩ := hx; go_simp; try with_reducible rfl
      refine tkH 4 ?_ hS (fun wx hx => ?_) ?_; rotate_left
      · obtain ⟨⟨hx0, hx1, hx2, hx3⟩, _⟩ := hx; go_simp; try with_reducible rfl
      refine tkH 5 ?_ hS (fun wx hx => ?_) ?_; rotate_left
      · obtain ⟨⟨hx0, hx1, hx2, hx3⟩, _⟩ := hx; go_simp; try with_reducible rfl
      refine rdH 2 (fun K hK => ?_)
      go_simp
      go_wp2_with fail
      refine (specRunFs_is _ _ 0 0 m 0 V G c v R _ H4.out.row H4.out.ops (by omega) (by omega) HA.out).mono ?_
      rintro e z1 ⟨so, sc, rfl, _, _, q⟩
      have hS1 := hS.later q
      have BB := hidA (H4.out.below.trans (q.mono H4.out.below.size))
      clear q hS H4
      go_wp2_with fail
      refine hK.out _ _ hS1 (fun hS => ?_)
      clear hK K
      clear hS1
      refine tkH 3 ?_ hS (fun wx hx => ?_) ?_; rotate_left
      · obtain ⟨⟨hx0, hx1, hx2, hx3⟩, _⟩ := hx; go_simp; try with_reducible rfl
      refine tkH 6 ?_ hS (fun wx hx => ?_) ?_; rotate_left
      · obtain ⟨⟨hx0, hx1, hx2, hx3⟩, _⟩ := hx; go_simp; try with_reducible rfl
      refine tkH 7 ?_ hS (fun wx hx => ?_) ?_; rotate_left
      · obtain ⟨⟨hx0, hx1, hx2, hx3⟩, _⟩ := hx; go_simp; try with_reducible rfl
      clear hS
      refine wpAnyH_done (by kernel_rfl) ?_ _
      go_simp
      go_wp2
      go_ret
      exact ⟨by simp, BB.out⟩
    subst hc0
    go_wp2_with fail
    clear p0 p1 p2 p3
    generalize w3.alloc (.cells #[.int .i64 0, .int .i64 0, .int .i64 v, .slice pa R.length pb] 30) = w4 at E3 ⊢
    refine (lwAt_one _ _ _ _ 2).mono ?_
    rintro e w5 ⟨rfl, hz⟩
    have hcut : 0 ≤ 0 := Nat.le_refl 0
    have E5 := hidA E3.out
    rw [← hz] at E5
    clear E3 hz
    obtain ⟨v1, R1, v2, ha1, ha2, hv, hR1, _, hfs, hv1, hv2⟩ := run_parts HA.out hcut
    have HA1 := hidA ha1
    have HA2 := hidA ha2
    have HFS := hidA hfs
    have HR1 : Hid (R1.length ≤ 200) := hR1
    subst hv
    have hwv : IntKind.i64.wrap (v1 + v2) = v1 + v2 := wrapR_i64 _ (by omega) (by omega)
    clear ha1 ha2 hfs hR1
    go_wp2_with fail
    refine (implRunFs_is _ _ 0 0 m 0 V G 0 v1 R1 _ E5.out.row (E5.out.ops.head hcut _) (by omega) (by omega) HA1.out).mono ?_
    rintro e w6 ⟨qa, qb, rfl, hrow, _, q6⟩
    have E7 := hidA (And.intro ((E5.out.later q6).later (below_alloc w6 (.cells #[.int .i64 0, .int .i64 0, .int .i64 v1, .slice qa R1.length qb] 30))) (And.intro (BlkF.new w6 (.int .i64 0) (.int .i64 0) (.int .i64 v1) (.slice qa R1.length qb) 30) ((hrow.mono (Nat.zero_le _)).alloc (.cells #[.int .i64 0, .int .i64 0, .int .i64 v1, .slice qa R1.length qb] 30))))
    clear hrow q6 E5
    obtain ⟨⟨p0, p1, p2, p3⟩, _⟩ := E7.out.2.1
    go_upto_region 9 with fail
    clear p0 p1 p2 p3
    generalize w6.alloc (.cells #[.int .i64 0, .int .i64 0, .int .i64 v1, .slice qa R1.length qb] 30) = X0 at E7 ⊢
    go_cut [8] (fun s wx => ∃ b8 ua uc, s = .pointer (some ⟨b8, 0, none⟩) ∧ Hid (OutR X0 b8 v2 R (.slice ua R.length uc) wx))
    case first =>
      refine wp_region_held_drew (S := fun X => Below X0.heap.size X0 X) (by kernel_rfl) (below_drewR X0) (fun hS => ?_)
      generalize X0.drew = z0 at hS ⊢
      refine tkH 0 ?_ hS (fun wx hx => ?_) ?_; rotate_left
      · obtain ⟨⟨hx0, hx1, hx2, hx3⟩, _⟩ := E7.out.2.1.later hx; go_simp; try with_reducible rfl
      refine tkH 1 ?_ hS (fun wx hx => ?_) ?_; rotate_left
      · obtain ⟨⟨hx0, hx1, hx2, hx3⟩, _⟩ := E7.out.2.1.later hx; go_simp; try with_reducible rfl
      refine tkH 2 ?_ hS (fun wx hx => ?_) ?_; rotate_left
      · obtain ⟨⟨hx0, hx1, hx2, hx3⟩, _⟩ := E7.out.2.1.later hx; go_simp; try with_reducible rfl
      refine tkH 3 ?_ hS (fun wx hx => ?_) ?_; rotate_left
      · obtain ⟨⟨hx0, hx1, hx2, hx3⟩, _⟩ := E7.out.2.1.later hx; go_simp; try with_reducible rfl
      refine tkH 4 ?_ hS (fun wx hx => ?_) ?_; rotate_left
      · obtain ⟨⟨hx0, hx1, hx2, hx3⟩, _⟩ := E7.out.2.1.later hx; go_simp; try with_reducible rfl
      refine wpAnyH_ready (rs := [5, 6]) (by kernel_rfl) (by simp) ?_
      refine AllReadyH.cons rfl (fun K hK => ?_) (AllReadyH.cons rfl (fun K hK => ?_) AllReadyH.nil)
      · go_simp
        go_wp2_with fail
        refine (implRunFs_is _ _ 0 0 R1.length (0 - 0) (rowL R1) (fun p => G (0 * 6 + p)) 0 v2 R _ (E7.out.2.2.later hS) (⟨_, _, rfl, fun z => by omega⟩) (by have := HR1.out; omega) (by omega) HA2.out).mono ?_
        rintro e z1 ⟨ua, uc, rfl, hrow, _, q⟩
        have hS1 := hS.trans (q.mono hS.size)
        have HU := hidA hrow
        clear hrow q hS
        go_wp2_with fail
        refine hK.out _ _ hS1 (fun hS => ?_)
        clear hK K
        clear hS1
        refine rdH 6 (fun K hK => ?_)
        go_simp
        have hS1 : Below X0.heap.size X0 (z1.alloc zeroFs) := hS.alloc hS.size _
        have HF : Hid (FBk (z1.alloc zeroFs) z1.heap.size ∧ X0.heap.size ≤ z1.heap.size) := ⟨FBk.new _ _ _ _ _, hS.size⟩
        have HL : Hid (Row (z1.alloc zeroFs) 0 2 R.length (rowL R) (.slice ua R.length uc) ∧ (0 < R.length → ∀ k, (Value.slice ua R.length uc).ownBlock = some k → k ≠ z1.heap.size)) := ⟨(HU.out.mono (Nat.zero_le _)).alloc _, fun h0 k hk => by have := (HU.out.lt h0 k hk).2; omega⟩
        clear HU hS
        refine hK.out _ _ hS1 (fun hS => ?_)
        clear hK K
        clear hS1
        refine rdH 7 (fun K hK => ?_)
        refine step_storeF rfl _ _ rfl z1.heap.size _ _ _ _ rfl rfl HF.out.1 (by kernel_rfl) ?_
        have hS1 : Below X0.heap.size X0 ((z1.alloc zeroFs).setRow z1.heap.size #[.int .i64 0, .int .i64 0, .int .i64 v2, .slice ua R.length uc]) := below_row hS HF.out.2 _
        have HO : Hid (OutR X0 z1.heap.size v2 R (.slice ua R.length uc) ((z1.alloc zeroFs).setRow z1.heap.size #[.int .i64 0, .int .i64 0, .int .i64 v2, .slice ua R.length uc])) := ⟨hS1, HF.out.1.blk _ _ _ _, HL.out.1.rowG HL.out.2 _⟩
        clear hS
        refine hK.out _ _ hS1 (fun hS => ?_)
        clear hK K
        clear hS1 hS
        refine wpAnyH_done (by kernel_rfl) ?_ _
        go_simp
        go_wp2_with fail
        go_meet
        case rel => exact ⟨_, ua, uc, rfl, HO⟩
      · go_simp
        have hS1 : Below X0.heap.size X0 (z0.alloc zeroFs) := hS.alloc hS.size _
        have HF : Hid (FBk (z0.alloc zeroFs) z0.heap.size ∧ X0.heap.size ≤ z0.heap.size) := ⟨FBk.new _ _ _ _ _, hS.size⟩
        clear hS
        refine hK.out _ _ hS1 (fun hS => ?_)
        clear hK K
        clear hS1
        refine rdH 5 (fun K hK => ?_)
        go_simp
        go_wp2_with fail
        refine (implRunFs_is _ _ 0 0 R1.length (0 - 0) (rowL R1) (fun p => G (0 * 6 + p)) 0 v2 R _ (E7.out.2.2.later hS) (⟨_, _, rfl, fun z => by omega⟩) (by have := HR1.out; omega) (by omega) HA2.out).mono ?_
        rintro e z1 ⟨ua, uc, rfl, hrow, _, q⟩
        have hS1 := hS.trans (q.mono hS.size)
        have HF1 : Hid (FBk z1 z0.heap.size ∧ X0.heap.size ≤ z0.heap.size) := ⟨HF.out.1.later q, HF.out.2⟩
        have HL : Hid (Row z1 0 2 R.length (rowL R) (.slice ua R.length uc) ∧ (0 < R.length → ∀ k, (Value.slice ua R.length uc).ownBlock = some k → k ≠ z0.heap.size)) := ⟨hrow.mono (Nat.zero_le _), fun h0 k hk => by have h1 := (hrow.lt h0 k hk).1; rw [World.size_alloc] at h1; omega⟩
        clear hrow q hS HF
        go_wp2_with fail
        refine hK.out _ _ hS1 (fun hS => ?_)
        clear hK K
        clear hS1
        refine rdH 7 (fun K hK => ?_)
        refine step_storeF rfl _ _ rfl z0.heap.size _ _ _ _ rfl rfl HF1.out.1 (by kernel_rfl) ?_
        have hS1 : Below X0.heap.size X0 (z1.setRow z0.heap.size #[.int .i64 0, .int .i64 0, .int .i64 v2, .slice ua R.length uc]) := below_row hS HF1.out.2 _
        have HO : Hid (OutR X0 z0.heap.size v2 R (.slice ua R.length uc) (z1.setRow z0.heap.size #[.int .i64 0, .int .i64 0, .int .i64 v2, .slice ua R.length uc])) := ⟨hS1, HF1.out.1.blk _ _ _ _, HL.out.1.rowG HL.out.2 _⟩
        clear hS
        refine hK.out _ _ hS1 (fun hS => ?_)
        clear hK K
        clear hS1 hS
        refine wpAnyH_done (by kernel_rfl) ?_ _
        go_simp
        go_wp2_with fail
        go_meet
        case rel => exact ⟨_, ua, uc, rfl, HO⟩
    case rest =>
      obtain ⟨b8, ua, uc, rfl, HO⟩ := hcut
      have HE := hidA (And.intro (E7.out.1.later HO.out.1) HO.out.2.2)
      have HS8 := hidA (And.intro (E7.out.2.1.later HO.out.1) HO.out.2.1)
      clear E7 HO
      have ff := field_fs2
      go_wp2_with fail
      refine wp_region_held_drew (S := fun Z : World => BlkF Z w3.heap.size (.int .i64 0) (.int .i64 0) (.int .i64 (v1 + v2)) (.slice pa R.length pb) ∧ BlkF Z w6.heap.size (.int .i64 0) (.int .i64 0) (.int .i64 v1) (.slice qa R1.length qb) ∧ BlkF Z b8 (.int .i64 0) (.int .i64 0) (.int .i64 v2) (.slice ua R.length uc)) (by kernel_rfl) ⟨HE.out.1.got.later (Below.refl _ _).drew, HS8.out.1.later (Below.refl _ _).drew, HS8.out.2.later (Below.refl _ _).drew⟩ (fun hS => ?_)
      have H1 := hidA (And.intro (HE.out.1.later (Below.refl _ _).drew) (HE.out.2.later (Below.refl _ _).drew))
      clear HE HS8
      have HE := H1
      clear H1
      generalize wc.drew = z0 at hS HE ⊢
      refine tkH 0 ?_ hS (fun wx hx => ?_) ?_; rotate_left
      · obtain ⟨⟨⟨hx0, hx1, hx2, hx3⟩, _⟩, ⟨⟨hy0, hy1, hy2, hy3⟩, _⟩, ⟨hz0, hz1, hz2, hz3⟩, _⟩ := hx; go_simp; try with_reducible rfl
      refine tkH 1 ?_ hS (fun wx hx => ?_) ?_; rotate_left
      · obtain ⟨⟨⟨hx0, hx1, hx2, hx3⟩, _⟩, ⟨⟨hy0, hy1, hy2, hy3⟩, _⟩, ⟨hz0, hz1, hz2, hz3⟩, _⟩ := hx; go_simp; try with_reducible rfl
      refine tkH 2 ?_ hS (fun wx hx => ?_) ?_; rotate_left
      · obtain ⟨⟨⟨hx0, hx1, hx2, hx3⟩, _⟩, ⟨⟨hy0, hy1, hy2, hy3⟩, _⟩, ⟨hz0, hz1, hz2, hz3⟩, _⟩ := hx; go_simp; try with_reducible rfl
      refine tkH 3 ?_ hS (fun wx hx => ?_) ?_; rotate_left
      · obtain ⟨⟨⟨hx0, hx1, hx2, hx3⟩, _⟩, ⟨⟨hy0, hy1, hy2, hy3⟩, _⟩, ⟨hz0, hz1, hz2, hz3⟩, _⟩ := hx; go_simp; try with_reducible rfl
      refine tkH 4 ?_ hS (fun wx hx => ?_) ?_; rotate_left
      · obtain ⟨⟨⟨hx0, hx1, hx2, hx3⟩, _⟩, ⟨⟨hy0, hy1, hy2, hy3⟩, _⟩, ⟨hz0, hz1, hz2, hz3⟩, _⟩ := hx; go_simp; try with_reducible rfl
      refine tkH 5 ?_ hS (fun wx hx => ?_) ?_; rotate_left
      · obtain ⟨⟨⟨hx0, hx1, hx2, hx3⟩, _⟩, ⟨⟨hy0, hy1, hy2, hy3⟩, _⟩, ⟨hz0, hz1, hz2, hz3⟩, _⟩ := hx; go_simp; try with_reducible rfl
      refine tkH 6 ?_ hS (fun wx hx => ?_) ?_; rotate_left
      · obtain ⟨⟨⟨hx0, hx1, hx2, hx3⟩, _⟩, ⟨⟨hy0, hy1, hy2, hy3⟩, _⟩, ⟨hz0, hz1, hz2, hz3⟩, _⟩ := hx; go_simp; try with_reducible rfl
      refine tkH 7 ?_ hS (fun wx hx => ?_) ?_; rotate_left
      · obtain ⟨⟨⟨hx0, hx1, hx2, hx3⟩, _⟩, ⟨⟨hy0, hy1, hy2, hy3⟩, _⟩, ⟨hz0, hz1, hz2, hz3⟩, _⟩ := hx; go_simp; try with_reducible rfl
      refine tkH 8 ?_ hS (fun wx hx => ?_) ?_; rotate_left
      · obtain ⟨⟨⟨hx0, hx1, hx2, hx3⟩, _⟩, ⟨⟨hy0, hy1, hy2, hy3⟩, _⟩, ⟨hz0, hz1, hz2, hz3⟩, _⟩ := hx; go_simp; try with_reducible rfl
      refine tkH 9 ?_ hS (fun wx hx => ?_) ?_; rotate_left
      · obtain ⟨⟨⟨hx0, hx1, hx2, hx3⟩, _⟩, ⟨⟨hy0, hy1, hy2, hy3⟩, _⟩, ⟨hz0, hz1, hz2, hz3⟩, _⟩ := hx; go_simp; try with_reducible rfl
      refine tkH 10 ?_ hS (fun wx hx => ?_) ?_; rotate_left
      · obtain ⟨⟨⟨hx0, hx1, hx2, hx3⟩, _⟩, ⟨⟨hy0, hy1, hy2, hy3⟩, _⟩, ⟨hz0, hz1, hz2, hz3⟩, _⟩ := hx; go_simp; try with_reducible rfl
      refine tkH 11 ?_ hS (fun wx hx => ?_) ?_; rotate_left
      · obtain ⟨⟨⟨hx0, hx1, hx2, hx3⟩, _⟩, ⟨⟨hy0, hy1, hy2, hy3⟩, _⟩, ⟨hz0, hz1, hz2, hz3⟩, _⟩ := hx; go_simp; try with_reducible rfl
      refine tkH 12 ?_ hS (fun wx hx => ?_) ?_; rotate_left
      · obtain ⟨⟨⟨hx0, hx1, hx2, hx3⟩, _⟩, ⟨⟨hy0, hy1, hy2, hy3⟩, _⟩, ⟨hz0, hz1, hz2, hz3⟩, _⟩ := hx; go_simp; try with_reducible rfl
      refine rdH 13 (fun K hK => ?_)
      go_simp
      go_wp2_with fail
      refine (implSamePairs_any _ _ 0 0 R.length R.length (rowL R) (rowL R) true _ HE.out.2 HE.out.1.res (by have := HR.out; omega) (by have := HR.out; omega) (same_row R)).mono ?_
      rintro e z1 ⟨rfl, j1, hz⟩
      have q : Below z0.heap.size z0 z1 := by rw [hz]; exact below_drewN (Below.refl _ _) j1
      clear hz
      have hS1 := And.intro (hS.1.later q) (And.intro (hS.2.1.later q) (hS.2.2.later q))
      have H1 := hidA (And.intro (HE.out.1.later q) (HE.out.2.later q))
      clear q HE hS
      have HE := H1
      clear H1
      go_wp2_with fail
      refine hK.out _ _ hS1 (fun hS => ?_)
      clear hK K
      clear hS1
      refine tkH 14 ?_ hS (fun wx hx => ?_) ?_; rotate_left
      · obtain ⟨⟨⟨hx0, hx1, hx2, hx3⟩, _⟩, ⟨⟨hy0, hy1, hy2, hy3⟩, _⟩, ⟨hz0, hz1, hz2, hz3⟩, _⟩ := hx; go_simp; try with_reducible rfl
      refine tkH 15 ?_ hS (fun wx hx => ?_) ?_; rotate_left
      · obtain ⟨⟨⟨hx0, hx1, hx2, hx3⟩, _⟩, ⟨⟨hy0, hy1, hy2, hy3⟩, _⟩, ⟨hz0, hz1, hz2, hz3⟩, _⟩ := hx; go_simp; try with_reducible rfl
      refine tkH 16 ?_ hS (fun wx hx => ?_) ?_; rotate_left
      · obtain ⟨⟨⟨hx0, hx1, hx2, hx3⟩, _⟩, ⟨⟨hy0, hy1, hy2, hy3⟩, _⟩, ⟨hz0, hz1, hz2, hz3⟩, _⟩ := hx; go_simp; try with_reducible rfl
      refine tkH 17 ?_ hS (fun wx hx => ?_) ?_; rotate_left
      · obtain ⟨⟨⟨hx0, hx1, hx2, hx3⟩, _⟩, ⟨⟨hy0, hy1, hy2, hy3⟩, _⟩, ⟨hz0, hz1, hz2, hz3⟩, _⟩ := hx; go_simp; try with_reducible rfl
      refine tkH 18 ?_ hS (fun wx hx => ?_) ?_; rotate_left
      · obtain ⟨⟨⟨hx0, hx1, hx2, hx3⟩, _⟩, ⟨⟨hy0, hy1, hy2, hy3⟩, _⟩, ⟨hz0, hz1, hz2, hz3⟩, _⟩ := hx; go_simp; try with_reducible rfl
      refine tkH 19 ?_ hS (fun wx hx => ?_) ?_; rotate_left
      · obtain ⟨⟨⟨hx0, hx1, hx2, hx3⟩, _⟩, ⟨⟨hy0, hy1, hy2, hy3⟩, _⟩, ⟨hz0, hz1, hz2, hz3⟩, _⟩ := hx; go_simp; try with_reducible rfl
      refine tkH 20 ?_ hS (fun wx hx => ?_) ?_; rotate_left
      · obtain ⟨⟨⟨hx0, hx1, hx2, hx3⟩, _⟩, ⟨⟨hy0, hy1, hy2, hy3⟩, _⟩, ⟨hz0, hz1, hz2, hz3⟩, _⟩ := hx; go_simp; try with_reducible rfl
      refine tkH 21 ?_ hS (fun wx hx => ?_) ?_; rotate_left
      · obtain ⟨⟨⟨hx0, hx1, hx2, hx3⟩, _⟩, ⟨⟨hy0, hy1, hy2, hy3⟩, _⟩, ⟨hz0, hz1, hz2, hz3⟩, _⟩ := hx; go_simp; try with_reducible rfl
      refine tkH 22 ?_ hS (fun wx hx => ?_) ?_; rotate_left
      · obtain ⟨⟨⟨hx0, hx1, hx2, hx3⟩, _⟩, ⟨⟨hy0, hy1, hy2, hy3⟩, _⟩, ⟨hz0, hz1, hz2, hz3⟩, _⟩ := hx; go_simp; try with_reducible rfl
      refine tkH 23 ?_ hS (fun wx hx => ?_) ?_; rotate_left
      · obtain ⟨⟨⟨hx0, hx1, hx2, hx3⟩, _⟩, ⟨⟨hy0, hy1, hy2, hy3⟩, _⟩, ⟨hz0, hz1, hz2, hz3⟩, _⟩ := hx; go_simp; try with_reducible rfl
      refine tkH 24 ?_ hS (fun wx hx => ?_) ?_; rotate_left
      · obtain ⟨⟨⟨hx0, hx1, hx2, hx3⟩, _⟩, ⟨⟨hy0, hy1, hy2, hy3⟩, _⟩, ⟨hz0, hz1, hz2, hz3⟩, _⟩ := hx; go_simp; try with_reducible rfl
      refine tkH 25 ?_ hS (fun wx hx => ?_) ?_; rotate_left
      · obtain ⟨⟨⟨hx0, hx1, hx2, hx3⟩, _⟩, ⟨⟨hy0, hy1, hy2, hy3⟩, _⟩, ⟨hz0, hz1, hz2, hz3⟩, _⟩ := hx; go_simp; try with_reducible rfl
      refine tkH 26 ?_ hS (fun wx hx => ?_) ?_; rotate_left
      · obtain ⟨⟨⟨hx0, hx1, hx2, hx3⟩, _⟩, ⟨⟨hy0, hy1, hy2, hy3⟩, _⟩, ⟨hz0, hz1, hz2, hz3⟩, _⟩ := hx; go_simp; try with_reducible rfl
      refine tkH 27 ?_ hS (fun wx hx => ?_) ?_; rotate_left
      · obtain ⟨⟨⟨hx0, hx1, hx2, hx3⟩, _⟩, ⟨⟨hy0, hy1, hy2, hy3⟩, _⟩, ⟨hz0, hz1, hz2, hz3⟩, _⟩ := hx; go_simp; try with_reducible rfl
      refine rdH 28 (fun K hK => ?_)
      go_simp
      go_wp2_with fail
      refine (implFs_is _ 0 R.length (rowL R) _ HE.out.1.res (by have := HR.out; omega)).mono ?_
      rintro e z2 ⟨rfl, q⟩
      rw [HFS.out]
      have hS1 := And.intro (hS.1.later q) (And.intro (hS.2.1.later q) (hS.2.2.later q))
      have H1 := hidA (And.intro (HE.out.1.later q) (HE.out.2.later q))
      clear q HE hS
      have HE := H1
      clear H1
      go_wp2_with fail
      refine hK.out _ _ hS1 (fun hS => ?_)
      clear hK K
      clear hS1
      refine tkH 29 ?_ hS (fun wx hx => ?_) ?_; rotate_left
      · obtain ⟨⟨⟨hx0, hx1, hx2, hx3⟩, _⟩, ⟨⟨hy0, hy1, hy2, hy3⟩, _⟩, ⟨hz0, hz1, hz2, hz3⟩, _⟩ := hx; go_simp; try with_reducible rfl
      refine tkH 30 ?_ hS (fun wx hx => ?_) ?_; rotate_left
      · obtain ⟨⟨⟨hx0, hx1, hx2, hx3⟩, _⟩, ⟨⟨hy0, hy1, hy2, hy3⟩, _⟩, ⟨hz0, hz1, hz2, hz3⟩, _⟩ := hx; go_simp; try with_reducible rfl
      refine tkH 31 ?_ hS (fun wx hx => ?_) ?_; rotate_left
      · obtain ⟨⟨⟨hx0, hx1, hx2, hx3⟩, _⟩, ⟨⟨hy0, hy1, hy2, hy3⟩, _⟩, ⟨hz0, hz1, hz2, hz3⟩, _⟩ := hx; go_simp; try with_reducible rfl
      refine tkH 32 ?_ hS (fun wx hx => ?_) ?_; rotate_left
      · obtain ⟨⟨⟨hx0, hx1, hx2, hx3⟩, _⟩, ⟨⟨hy0, hy1, hy2, hy3⟩, _⟩, ⟨hz0, hz1, hz2, hz3⟩, _⟩ := hx; go_simp; try with_reducible rfl
      refine tkH 33 ?_ hS (fun wx hx => ?_) ?_; rotate_left
      · obtain ⟨⟨⟨hx0, hx1, hx2, hx3⟩, _⟩, ⟨⟨hy0, hy1, hy2, hy3⟩, _⟩, ⟨hz0, hz1, hz2, hz3⟩, _⟩ := hx; go_simp; try with_reducible rfl
      refine tkH 34 ?_ hS (fun wx hx => ?_) ?_; rotate_left
      · obtain ⟨⟨⟨hx0, hx1, hx2, hx3⟩, _⟩, ⟨⟨hy0, hy1, hy2, hy3⟩, _⟩, ⟨hz0, hz1, hz2, hz3⟩, _⟩ := hx; go_simp; try with_reducible rfl
      refine tkH 35 ?_ hS (fun wx hx => ?_) ?_; rotate_left
      · obtain ⟨⟨⟨hx0, hx1, hx2, hx3⟩, _⟩, ⟨⟨hy0, hy1, hy2, hy3⟩, _⟩, ⟨hz0, hz1, hz2, hz3⟩, _⟩ := hx; go_simp; try with_reducible rfl
      refine rdH 36 (fun K hK => ?_)
      go_simp
      go_wp2_with fail
      refine (specRunFs_is _ _ 0 0 m 0 V G 0 (v1 + v2) R _ HE.out.1.row HE.out.1.ops (by omega) (by omega) HA.out).mono ?_
      rintro e z3 ⟨so, sc, rfl, _, _, q⟩
      have hS1 := And.intro (hS.1.later q) (And.intro (hS.2.1.later q) (hS.2.2.later q))
      have H1 := hidA (And.intro (HE.out.1.later q) (HE.out.2.later q))
      clear q HE hS
      have HE := H1
      clear H1
      go_wp2_with fail
      refine hK.out _ _ hS1 (fun hS => ?_)
      clear hK K
      clear hS1
      refine tkH 37 ?_ hS (fun wx hx => ?_) ?_; rotate_left
      · obtain ⟨⟨⟨hx0, hx1, hx2, hx3⟩, _⟩, ⟨⟨hy0, hy1, hy2, hy3⟩, _⟩, ⟨hz0, hz1, hz2, hz3⟩, _⟩ := hx; go_simp; try with_reducible rfl
      refine tkH 38 ?_ hS (fun wx hx => ?_) ?_; rotate_left
      · obtain ⟨⟨⟨hx0, hx1, hx2, hx3⟩, _⟩, ⟨⟨hy0, hy1, hy2, hy3⟩, _⟩, ⟨hz0, hz1, hz2, hz3⟩, _⟩ := hx; go_simp; try with_reducible rfl
      refine tkH 39 ?_ hS (fun wx hx => ?_) ?_; rotate_left
      · obtain ⟨⟨⟨hx0, hx1, hx2, hx3⟩, _⟩, ⟨⟨hy0, hy1, hy2, hy3⟩, _⟩, ⟨hz0, hz1, hz2, hz3⟩, _⟩ := hx; go_simp; try with_reducible rfl
      refine tkH 40 ?_ hS (fun wx hx => ?_) ?_; rotate_left
      · obtain ⟨⟨⟨hx0, hx1, hx2, hx3⟩, _⟩, ⟨⟨hy0, hy1, hy2, hy3⟩, _⟩, ⟨hz0, hz1, hz2, hz3⟩, _⟩ := hx; go_simp; try with_reducible rfl
      clear hS
      refine wpAnyH_done (by kernel_rfl) ?_ _
      go_simp
      have BB := hidA HE.out.1.below
      clear HE
      go_wp2
      go_ret
      exact ⟨by simp, BB.out⟩
  · obtain ⟨c, v, R, hans, hR⟩ := RunAns.get m V k G
    have HR : Hid (R.length ≤ 200) := hR
    have HA : Hid (RunAns m V k G c v R) := hans
    clear hans hR
    go_wp2_with fail
    refine (implRunFs_is _ _ 0 0 m k V G c v R _ (HX.out.1.mono (Nat.zero_le _)) (HX.out.2.1.mono (Nat.zero_le _)) (by omega) (by omega) HA.out).mono ?_
    rintro e w3 ⟨pa, pb, rfl, hrow, _, q3⟩
    have E3 : Hid (EnvR w o len w3.heap.size c v m V (.slice ao m cp) k G (.slice (some ⟨g, 0, none⟩) k bp) R (.slice pa R.length pb) (w3.alloc (.cells #[.int .i64 c, .int .i64 0, .int .i64 v, .slice pa R.length pb] 30))) :=
      ⟨(HX.out.2.2.trans (q3.mono HX.out.2.2.size)).alloc (Nat.le_trans HX.out.2.2.size q3.size) _, (HC0.out.later ((HX.out.2.2.trans (q3.mono HX.out.2.2.size)).alloc (Nat.le_trans HX.out.2.2.size q3.size) (.cells #[.int .i64 c, .int .i64 0, .int .i64 v, .slice pa R.length pb] 30))), ((HX.out.1.mono (Nat.zero_le _)).later q3).alloc _, ((HX.out.2.1.mono (Nat.zero_le _)).later q3).alloc _, BlkF.new w3 _ _ _ _ _, (hrow.mono (Nat.zero_le _)).alloc _⟩
    clear hrow q3 HX HC0
    obtain ⟨⟨p0, p1, p2, p3⟩, _⟩ := E3.out.got
    by_cases hc0 : c = 0
    case neg =>
      have dc : (c != 0) = true := bne_iff_ne.2 hc0
      have ff := field_fs0
      clear hc0
      go_wp2_with fail
      refine wp_region_held_drew (S := fun Z : World => BlkF Z w3.heap.size (.int .i64 c) (.int .i64 0) (.int .i64 v) (.slice pa R.length pb)) (by kernel_rfl) (E3.out.got.later (Below.refl _ _).drew) (fun hS => ?_)
      have H4 := hidA (E3.out.later (Below.refl _ _).drew)
      clear E3 p0 p1 p2 p3
      generalize (w3.alloc (.cells #[.int .i64 c, .int .i64 0, .int .i64 v, .slice pa R.length pb] 30)).drew = z0 at hS H4 ⊢
      refine tkH 0 ?_ hS (fun wx hx => ?_) ?_; rotate_left
      · obtain ⟨⟨hx0, hx1, hx2, hx3⟩, _⟩ := hx; go_simp; try with_reducible rfl
      refine tkH 1 ?_ hS (fun wx hx => ?_) ?_; rotate_left
      · obtain ⟨⟨hx0, hx1, hx2, hx3⟩, _⟩ := hx; go_simp; try with_reducible rfl
      refine tkH 4 ?_ hS (fun wx hx => ?_) ?_; rotate_left
      · obtain ⟨⟨hx0, hx1, hx2, hx3⟩, _⟩ := hx; go_simp; try with_reducible rfl
      refine tkH 5 ?_ hS (fun wx hx => ?_) ?_; rotate_left
      · obtain ⟨⟨hx0, hx1, hx2, hx3⟩, _⟩ := hx; go_simp; try with_reducible rfl
      refine rdH 2 (fun K hK => ?_)
      go_simp
      go_wp2_with fail
      refine (specRunFs_is _ _ 0 0 m k V G c v R _ H4.out.row H4.out.ops (by omega) (by omega) HA.out).mono ?_
      rintro e z1 ⟨so, sc, rfl, _, _, q⟩
      have hS1 := hS.later q
      have BB := hidA (H4.out.below.trans (q.mono H4.out.below.size))
      clear q hS H4
      go_wp2_with fail
      refine hK.out _ _ hS1 (fun hS => ?_)
      clear hK K
      clear hS1
      refine tkH 3 ?_ hS (fun wx hx => ?_) ?_; rotate_left
      · obtain ⟨⟨hx0, hx1, hx2, hx3⟩, _⟩ := hx; go_simp; try with_reducible rfl
      refine tkH 6 ?_ hS (fun wx hx => ?_) ?_; rotate_left
      · obtain ⟨⟨hx0, hx1, hx2, hx3⟩, _⟩ := hx; go_simp; try with_reducible rfl
      refine tkH 7 ?_ hS (fun wx hx => ?_) ?_; rotate_left
      · obtain ⟨⟨hx0, hx1, hx2, hx3⟩, _⟩ := hx; go_simp; try with_reducible rfl
      clear hS
      refine wpAnyH_done (by kernel_rfl) ?_ _
      go_simp
      go_wp2
      go_ret
      exact ⟨by simp, BB.out⟩
    subst hc0
    have hwk : IntKind.i64.wrap ((k : Int) + 1) = (k : Int) + 1 := wrapR_i64 _ (by omega) (by omega)
    go_wp2_with fail
    clear p0 p1 p2 p3
    generalize w3.alloc (.cells #[.int .i64 0, .int .i64 0, .int .i64 v, .slice pa R.length pb] 30) = w4 at E3 ⊢
    refine (lwAt_le _ _ _ _ 2 ((k : Int) + 1) E3.out.code hl (by omega) (by omega)).mono ?_
    rintro e w5 ⟨r, rfl, hr, jq, hz⟩
    obtain ⟨cut, rfl⟩ : ∃ x : Nat, r = x := ⟨r.toNat, by omega⟩
    have hcut : cut ≤ k := by omega
    have E5 := hidA (E3.out.later (below_drewN (Below.refl _ _) jq))
    rw [← hz] at E5
    clear E3 hz hwk hr
    obtain ⟨v1, R1, v2, ha1, ha2, hv, hR1, _, hfs, hv1, hv2⟩ := run_parts HA.out hcut
    have HA1 := hidA ha1
    have HA2 := hidA ha2
    have HFS := hidA hfs
    have HR1 : Hid (R1.length ≤ 200) := hR1
    subst hv
    have hwv : IntKind.i64.wrap (v1 + v2) = v1 + v2 := wrapR_i64 _ (by omega) (by omega)
    clear ha1 ha2 hfs hR1
    go_wp2_with fail
    refine (implRunFs_is _ _ 0 0 m cut V G 0 v1 R1 _ E5.out.row (E5.out.ops.head hcut _) (by omega) (by omega) HA1.out).mono ?_
    rintro e w6 ⟨qa, qb, rfl, hrow, _, q6⟩
    have E7 := hidA (And.intro ((E5.out.later q6).later (below_alloc w6 (.cells #[.int .i64 0, .int .i64 0, .int .i64 v1, .slice qa R1.length qb] 30))) (And.intro (BlkF.new w6 (.int .i64 0) (.int .i64 0) (.int .i64 v1) (.slice qa R1.length qb) 30) ((hrow.mono (Nat.zero_le _)).alloc (.cells #[.int .i64 0, .int .i64 0, .int .i64 v1, .slice qa R1.length qb] 30))))
    clear hrow q6 E5
    obtain ⟨⟨p0, p1, p2, p3⟩, _⟩ := E7.out.2.1
    go_upto_region 9 with fail
    clear p0 p1 p2 p3
    generalize w6.alloc (.cells #[.int .i64 0, .int .i64 0, .int .i64 v1, .slice qa R1.length qb] 30) = X0 at E7 ⊢
    go_cut [8] (fun s wx => ∃ b8 ua uc, s = .pointer (some ⟨b8, 0, none⟩) ∧ Hid (OutR X0 b8 v2 R (.slice ua R.length uc) wx))
    case first =>
      by_cases hbc : bp = cut
      · have hif : ∀ (a b : Option Addr), (if bp = cut then a else b) = a := fun a b => if_pos hbc
        have HBC := hidA hbc
        clear hbc
        refine wp_region_held_drew (S := fun X => Below X0.heap.size X0 X) (by kernel_rfl) (below_drewR X0) (fun hS => ?_)
        generalize X0.drew = z0 at hS ⊢
        refine tkH 0 ?_ hS (fun wx hx => ?_) ?_; rotate_left
        · obtain ⟨⟨hx0, hx1, hx2, hx3⟩, _⟩ := E7.out.2.1.later hx; go_simp; try with_reducible rfl
        refine tkH 1 ?_ hS (fun wx hx => ?_) ?_; rotate_left
        · obtain ⟨⟨hx0, hx1, hx2, hx3⟩, _⟩ := E7.out.2.1.later hx; go_simp; try with_reducible rfl
        refine tkH 2 ?_ hS (fun wx hx => ?_) ?_; rotate_left
        · obtain ⟨⟨hx0, hx1, hx2, hx3⟩, _⟩ := E7.out.2.1.later hx; go_simp; try with_reducible rfl
        refine tkH 3 ?_ hS (fun wx hx => ?_) ?_; rotate_left
        · obtain ⟨⟨hx0, hx1, hx2, hx3⟩, _⟩ := E7.out.2.1.later hx; go_simp; try with_reducible rfl
        refine tkH 4 ?_ hS (fun wx hx => ?_) ?_; rotate_left
        · obtain ⟨⟨hx0, hx1, hx2, hx3⟩, _⟩ := E7.out.2.1.later hx; go_simp; try with_reducible rfl
        refine wpAnyH_ready (rs := [5, 6]) (by kernel_rfl) (by simp) ?_
        refine AllReadyH.cons rfl (fun K hK => ?_) (AllReadyH.cons rfl (fun K hK => ?_) AllReadyH.nil)
        · go_simp
          go_wp2_with fail
          refine (implRunFs_is _ _ 0 0 R1.length (k - cut) (rowL R1) (fun p => G (cut * 6 + p)) 0 v2 R _ (E7.out.2.2.later hS) ((row_end hkp HBC.out)) (by have := HR1.out; omega) (by omega) HA2.out).mono ?_
          rintro e z1 ⟨ua, uc, rfl, hrow, _, q⟩
          have hS1 := hS.trans (q.mono hS.size)
          have HU := hidA hrow
          clear hrow q hS
          go_wp2_with fail
          refine hK.out _ _ hS1 (fun hS => ?_)
          clear hK K
          clear hS1
          refine rdH 6 (fun K hK => ?_)
          go_simp
          have hS1 : Below X0.heap.size X0 (z1.alloc zeroFs) := hS.alloc hS.size _
          have HF : Hid (FBk (z1.alloc zeroFs) z1.heap.size ∧ X0.heap.size ≤ z1.heap.size) := ⟨FBk.new _ _ _ _ _, hS.size⟩
          have HL : Hid (Row (z1.alloc zeroFs) 0 2 R.length (rowL R) (.slice ua R.length uc) ∧ (0 < R.length → ∀ k, (Value.slice ua R.length uc).ownBlock = some k → k ≠ z1.heap.size)) := ⟨(HU.out.mono (Nat.zero_le _)).alloc _, fun h0 k hk => by have := (HU.out.lt h0 k hk).2; omega⟩
          clear HU hS
          refine hK.out _ _ hS1 (fun hS => ?_)
          clear hK K
          clear hS1
          refine rdH 7 (fun K hK => ?_)
          refine step_storeF rfl _ _ rfl z1.heap.size _ _ _ _ rfl rfl HF.out.1 (by kernel_rfl) ?_
          have hS1 : Below X0.heap.size X0 ((z1.alloc zeroFs).setRow z1.heap.size #[.int .i64 0, .int .i64 0, .int .i64 v2, .slice ua R.length uc]) := below_row hS HF.out.2 _
          have HO : Hid (OutR X0 z1.heap.size v2 R (.slice ua R.length uc) ((z1.alloc zeroFs).setRow z1.heap.size #[.int .i64 0, .int .i64 0, .int .i64 v2, .slice ua R.length uc])) := ⟨hS1, HF.out.1.blk _ _ _ _, HL.out.1.rowG HL.out.2 _⟩
          clear hS
          refine hK.out _ _ hS1 (fun hS => ?_)
          clear hK K
          clear hS1 hS
          refine wpAnyH_done (by kernel_rfl) ?_ _
          go_simp
          go_wp2_with fail
          go_meet
          case rel => exact ⟨_, ua, uc, rfl, HO⟩
        · go_simp
          have hS1 : Below X0.heap.size X0 (z0.alloc zeroFs) := hS.alloc hS.size _
          have HF : Hid (FBk (z0.alloc zeroFs) z0.heap.size ∧ X0.heap.size ≤ z0.heap.size) := ⟨FBk.new _ _ _ _ _, hS.size⟩
          clear hS
          refine hK.out _ _ hS1 (fun hS => ?_)
          clear hK K
          clear hS1
          refine rdH 5 (fun K hK => ?_)
          go_simp
          go_wp2_with fail
          refine (implRunFs_is _ _ 0 0 R1.length (k - cut) (rowL R1) (fun p => G (cut * 6 + p)) 0 v2 R _ (E7.out.2.2.later hS) ((row_end hkp HBC.out)) (by have := HR1.out; omega) (by omega) HA2.out).mono ?_
          rintro e z1 ⟨ua, uc, rfl, hrow, _, q⟩
          have hS1 := hS.trans (q.mono hS.size)
          have HF1 : Hid (FBk z1 z0.heap.size ∧ X0.heap.size ≤ z0.heap.size) := ⟨HF.out.1.later q, HF.out.2⟩
          have HL : Hid (Row z1 0 2 R.length (rowL R) (.slice ua R.length uc) ∧ (0 < R.length → ∀ k, (Value.slice ua R.length uc).ownBlock = some k → k ≠ z0.heap.size)) := ⟨hrow.mono (Nat.zero_le _), fun h0 k hk => by have h1 := (hrow.lt h0 k hk).1; rw [World.size_alloc] at h1; omega⟩
          clear hrow q hS HF
          go_wp2_with fail
          refine hK.out _ _ hS1 (fun hS => ?_)
          clear hK K
          clear hS1
          refine rdH 7 (fun K hK => ?_)
          refine step_storeF rfl _ _ rfl z0.heap.size _ _ _ _ rfl rfl HF1.out.1 (by kernel_rfl) ?_
          have hS1 : Below X0.heap.size X0 (z1.setRow z0.heap.size #[.int .i64 0, .int .i64 0, .int .i64 v2, .slice ua R.length uc]) := below_row hS HF1.out.2 _
          have HO : Hid (OutR X0 z0.heap.size v2 R (.slice ua R.length uc) (z1.setRow z0.heap.size #[.int .i64 0, .int .i64 0, .int .i64 v2, .slice ua R.length uc])) := ⟨hS1, HF1.out.1.blk _ _ _ _, HL.out.1.rowG HL.out.2 _⟩
          clear hS
          refine hK.out _ _ hS1 (fun hS => ?_)
          clear hK K
          clear hS1 hS
          refine wpAnyH_done (by kernel_rfl) ?_ _
          go_simp
          go_wp2_with fail
          go_meet
          case rel => exact ⟨_, ua, uc, rfl, HO⟩
      · refine wp_region_held_drew (S := fun X => Below X0.heap.size X0 X) (by kernel_rfl) (below_drewR X0) (fun hS => ?_)
        generalize X0.drew = z0 at hS ⊢
        refine tkH 0 ?_ hS (fun wx hx => ?_) ?_; rotate_left
        · obtain ⟨⟨hx0, hx1, hx2, hx3⟩, _⟩ := E7.out.2.1.later hx; go_simp; try with_reducible rfl
        refine tkH 1 ?_ hS (fun wx hx => ?_) ?_; rotate_left
        · obtain ⟨⟨hx0, hx1, hx2, hx3⟩, _⟩ := E7.out.2.1.later hx; go_simp; try with_reducible rfl
        refine tkH 2 ?_ hS (fun wx hx => ?_) ?_; rotate_left
        · obtain ⟨⟨hx0, hx1, hx2, hx3⟩, _⟩ := E7.out.2.1.later hx; go_simp; try with_reducible rfl
        refine tkH 3 ?_ hS (fun wx hx => ?_) ?_; rotate_left
        · obtain ⟨⟨hx0, hx1, hx2, hx3⟩, _⟩ := E7.out.2.1.later hx; go_simp; try with_reducible rfl
        refine tkH 4 ?_ hS (fun wx hx => ?_) ?_; rotate_left
        · obtain ⟨⟨hx0, hx1, hx2, hx3⟩, _⟩ := E7.out.2.1.later hx; go_simp; try with_reducible rfl
        refine wpAnyH_ready (rs := [5, 6]) (by kernel_rfl) (by simp) ?_
        refine AllReadyH.cons rfl (fun K hK => ?_) (AllReadyH.cons rfl (fun K hK => ?_) AllReadyH.nil)
        · go_simp
          go_wp2_with fail
          refine (implRunFs_is _ _ 0 0 R1.length (k - cut) (rowL R1) (fun p => G (cut * 6 + p)) 0 v2 R _ (E7.out.2.2.later hS) ((row_suf (E7.out.1.ops.later hS) hcut)) (by have := HR1.out; omega) (by omega) HA2.out).mono ?_
          rintro e z1 ⟨ua, uc, rfl, hrow, _, q⟩
          have hS1 := hS.trans (q.mono hS.size)
          have HU := hidA hrow
          clear hrow q hS
          go_wp2_with fail
          refine hK.out _ _ hS1 (fun hS => ?_)
          clear hK K
          clear hS1
          refine rdH 6 (fun K hK => ?_)
          go_simp
          have hS1 : Below X0.heap.size X0 (z1.alloc zeroFs) := hS.alloc hS.size _
          have HF : Hid (FBk (z1.alloc zeroFs) z1.heap.size ∧ X0.heap.size ≤ z1.heap.size) := ⟨FBk.new _ _ _ _ _, hS.size⟩
          have HL : Hid (Row (z1.alloc zeroFs) 0 2 R.length (rowL R) (.slice ua R.length uc) ∧ (0 < R.length → ∀ k, (Value.slice ua R.length uc).ownBlock = some k → k ≠ z1.heap.size)) := ⟨(HU.out.mono (Nat.zero_le _)).alloc _, fun h0 k hk => by have := (HU.out.lt h0 k hk).2; omega⟩
          clear HU hS
          refine hK.out _ _ hS1 (fun hS => ?_)
          clear hK K
          clear hS1
          refine rdH 7 (fun K hK => ?_)
          refine step_storeF rfl _ _ rfl z1.heap.size _ _ _ _ rfl rfl HF.out.1 (by kernel_rfl) ?_
          have hS1 : Below X0.heap.size X0 ((z1.alloc zeroFs).setRow z1.heap.size #[.int .i64 0, .int .i64 0, .int .i64 v2, .slice ua R.length uc]) := below_row hS HF.out.2 _
          have HO : Hid (OutR X0 z1.heap.size v2 R (.slice ua R.length uc) ((z1.alloc zeroFs).setRow z1.heap.size #[.int .i64 0, .int .i64 0, .int .i64 v2, .slice ua R.length uc])) := ⟨hS1, HF.out.1.blk _ _ _ _, HL.out.1.rowG HL.out.2 _⟩
          clear hS
          refine hK.out _ _ hS1 (fun hS => ?_)
          clear hK K
          clear hS1 hS
          refine wpAnyH_done (by kernel_rfl) ?_ _
          go_simp
          go_wp2_with fail
          go_meet
          case rel => exact ⟨_, ua, uc, rfl, HO⟩
        · go_simp
          have hS1 : Below X0.heap.size X0 (z0.alloc zeroFs) := hS.alloc hS.size _
          have HF : Hid (FBk (z0.alloc zeroFs) z0.heap.size ∧ X0.heap.size ≤ z0.heap.size) := ⟨FBk.new _ _ _ _ _, hS.size⟩
          clear hS
          refine hK.out _ _ hS1 (fun hS => ?_)
          clear hK K
          clear hS1
          refine rdH 5 (fun K hK => ?_)
          go_simp
          go_wp2_with fail
          refine (implRunFs_is _ _ 0 0 R1.length (k - cut) (rowL R1) (fun p => G (cut * 6 + p)) 0 v2 R _ (E7.out.2.2.later hS) ((row_suf (E7.out.1.ops.later hS) hcut)) (by have := HR1.out; omega) (by omega) HA2.out).mono ?_
          rintro e z1 ⟨ua, uc, rfl, hrow, _, q⟩
          have hS1 := hS.trans (q.mono hS.size)
          have HF1 : Hid (FBk z1 z0.heap.size ∧ X0.heap.size ≤ z0.heap.size) := ⟨HF.out.1.later q, HF.out.2⟩
          have HL : Hid (Row z1 0 2 R.length (rowL R) (.slice ua R.length uc) ∧ (0 < R.length → ∀ k, (Value.slice ua R.length uc).ownBlock = some k → k ≠ z0.heap.size)) := ⟨hrow.mono (Nat.zero_le _), fun h0 k hk => by have h1 := (hrow.lt h0 k hk).1; rw [World.size_alloc] at h1; omega⟩
          clear hrow q hS HF
          go_wp2_with fail
          refine hK.out _ _ hS1 (fun hS => ?_)
          clear hK K
          clear hS1
          refine rdH 7 (fun K hK => ?_)
          refine step_storeF rfl _ _ rfl z0.heap.size _ _ _ _ rfl rfl HF1.out.1 (by kernel_rfl) ?_
          have hS1 : Below X0.heap.size X0 (z1.setRow z0.heap.size #[.int .i64 0, .int .i64 0, .int .i64 v2, .slice ua R.length uc]) := below_row hS HF1.out.2 _
          have HO : Hid (OutR X0 z0.heap.size v2 R (.slice ua R.length uc) (z1.setRow z0.heap.size #[.int .i64 0, .int .i64 0, .int .i64 v2, .slice ua R.length uc])) := ⟨hS1, HF1.out.1.blk _ _ _ _, HL.out.1.rowG HL.out.2 _⟩
          clear hS
          refine hK.out _ _ hS1 (fun hS => ?_)
          clear hK K
          clear hS1 hS
          refine wpAnyH_done (by kernel_rfl) ?_ _
          go_simp
          go_wp2_with fail
          go_meet
          case rel => exact ⟨_, ua, uc, rfl, HO⟩
    case rest =>
      obtain ⟨b8, ua, uc, rfl, HO⟩ := hcut
      have HE := hidA (And.intro (E7.out.1.later HO.out.1) HO.out.2.2)
      have HS8 := hidA (And.intro (E7.out.2.1.later HO.out.1) HO.out.2.1)
      clear E7 HO
      have ff := field_fs2
      go_wp2_with fail
      refine wp_region_held_drew (S := fun Z : World => BlkF Z w3.heap.size (.int .i64 0) (.int .i64 0) (.int .i64 (v1 + v2)) (.slice pa R.length pb) ∧ BlkF Z w6.heap.size (.int .i64 0) (.int .i64 0) (.int .i64 v1) (.slice qa R1.length qb) ∧ BlkF Z b8 (.int .i64 0) (.int .i64 0) (.int .i64 v2) (.slice ua R.length uc)) (by kernel_rfl) ⟨HE.out.1.got.later (Below.refl _ _).drew, HS8.out.1.later (Below.refl _ _).drew, HS8.out.2.later (Below.refl _ _).drew⟩ (fun hS => ?_)
      have H1 := hidA (And.intro (HE.out.1.later (Below.refl _ _).drew) (HE.out.2.later (Below.refl _ _).drew))
      clear HE HS8
      have HE := H1
      clear H1
      generalize wc.drew = z0 at hS HE ⊢
      refine tkH 0 ?_ hS (fun wx hx => ?_) ?_; rotate_left
      · obtain ⟨⟨⟨hx0, hx1, hx2, hx3⟩, _⟩, ⟨⟨hy0, hy1, hy2, hy3⟩, _⟩, ⟨hz0, hz1, hz2, hz3⟩, _⟩ := hx; go_simp; try with_reducible rfl
      refine tkH 1 ?_ hS (fun wx hx => ?_) ?_; rotate_left
      · obtain ⟨⟨⟨hx0, hx1, hx2, hx3⟩, _⟩, ⟨⟨hy0, hy1, hy2, hy3⟩, _⟩, ⟨hz0, hz1, hz2, hz3⟩, _⟩ := hx; go_simp; try with_reducible rfl
      refine tkH 2 ?_ hS (fun wx hx => ?_) ?_; rotate_left
      · obtain ⟨⟨⟨hx0, hx1, hx2, hx3⟩, _⟩, ⟨⟨hy0, hy1, hy2, hy3⟩, _⟩, ⟨hz0, hz1, hz2, hz3⟩, _⟩ := hx; go_simp; try with_reducible rfl
      refine tkH 3 ?_ hS (fun wx hx => ?_) ?_; rotate_left
      · obtain ⟨⟨⟨hx0, hx1, hx2, hx3⟩, _⟩, ⟨⟨hy0, hy1, hy2, hy3⟩, _⟩, ⟨hz0, hz1, hz2, hz3⟩, _⟩ := hx; go_simp; try with_reducible rfl
      refine tkH 4 ?_ hS (fun wx hx => ?_) ?_; rotate_left
      · obtain ⟨⟨⟨hx0, hx1, hx2, hx3⟩, _⟩, ⟨⟨hy0, hy1, hy2, hy3⟩, _⟩, ⟨hz0, hz1, hz2, hz3⟩, _⟩ := hx; go_simp; try with_reducible rfl
      refine tkH 5 ?_ hS (fun wx hx => ?_) ?_; rotate_left
      · obtain ⟨⟨⟨hx0, hx1, hx2, hx3⟩, _⟩, ⟨⟨hy0, hy1, hy2, hy3⟩, _⟩, ⟨hz0, hz1, hz2, hz3⟩, _⟩ := hx; go_simp; try with_reducible rfl
      refine tkH 6 ?_ hS (fun wx hx => ?_) ?_; rotate_left
      · obtain ⟨⟨⟨hx0, hx1, hx2, hx3⟩, _⟩, ⟨⟨hy0, hy1, hy2, hy3⟩, _⟩, ⟨hz0, hz1, hz2, hz3⟩, _⟩ := hx; go_simp; try with_reducible rfl
      refine tkH 7 ?_ hS (fun wx hx => ?_) ?_; rotate_left
      · obtain ⟨⟨⟨hx0, hx1, hx2, hx3⟩, _⟩, ⟨⟨hy0, hy1, hy2, hy3⟩, _⟩, ⟨hz0, hz1, hz2, hz3⟩, _⟩ := hx; go_simp; try with_reducible rfl
      refine tkH 8 ?_ hS (fun wx hx => ?_) ?_; rotate_left
      · obtain ⟨⟨⟨hx0, hx1, hx2, hx3⟩, _⟩, ⟨⟨hy0, hy1, hy2, hy3⟩, _⟩, ⟨hz0, hz1, hz2, hz3⟩, _⟩ := hx; go_simp; try with_reducible rfl
      refine tkH 9 ?_ hS (fun wx hx => ?_) ?_; rotate_left
      · obtain ⟨⟨⟨hx0, hx1, hx2, hx3⟩, _⟩, ⟨⟨hy0, hy1, hy2, hy3⟩, _⟩, ⟨hz0, hz1, hz2, hz3⟩, _⟩ := hx; go_simp; try with_reducible rfl
      refine tkH 10 ?_ hS (fun wx hx => ?_) ?_; rotate_left
      · obtain ⟨⟨⟨hx0, hx1, hx2, hx3⟩, _⟩, ⟨⟨hy0, hy1, hy2, hy3⟩, _⟩, ⟨hz0, hz1, hz2, hz3⟩, _⟩ := hx; go_simp; try with_reducible rfl
      refine tkH 11 ?_ hS (fun wx hx => ?_) ?_; rotate_left
      · obtain ⟨⟨⟨hx0, hx1, hx2, hx3⟩, _⟩, ⟨⟨hy0, hy1, hy2, hy3⟩, _⟩, ⟨hz0, hz1, hz2, hz3⟩, _⟩ := hx; go_simp; try with_reducible rfl
      refine tkH 12 ?_ hS (fun wx hx => ?_) ?_; rotate_left
      · obtain ⟨⟨⟨hx0, hx1, hx2, hx3⟩, _⟩, ⟨⟨hy0, hy1, hy2, hy3⟩, _⟩, ⟨hz0, hz1, hz2, hz3⟩, _⟩ := hx; go_simp; try with_reducible rfl
      refine rdH 13 (fun K hK => ?_)
      go_simp
      go_wp2_with fail
      refine (implSamePairs_any _ _ 0 0 R.length R.length (rowL R) (rowL R) true _ HE.out.2 HE.out.1.res (by have := HR.out; omega) (by have := HR.out; omega) (same_row R)).mono ?_
      rintro e z1 ⟨rfl, j1, hz⟩
      have q : Below z0.heap.size z0 z1 := by rw [hz]; exact below_drewN (Below.refl _ _) j1
      clear hz
      have hS1 := And.intro (hS.1.later q) (And.intro (hS.2.1.later q) (hS.2.2.later q))
      have H1 := hidA (And.intro (HE.out.1.later q) (HE.out.2.later q))
      clear q HE hS
      have HE := H1
      clear H1
      go_wp2_with fail
      refine hK.out _ _ hS1 (fun hS => ?_)
      clear hK K
      clear hS1
      refine tkH 14 ?_ hS (fun wx hx => ?_) ?_; rotate_left
      · obtain ⟨⟨⟨hx0, hx1, hx2, hx3⟩, _⟩, ⟨⟨hy0, hy1, hy2, hy3⟩, _⟩, ⟨hz0, hz1, hz2, hz3⟩, _⟩ := hx; go_simp; try with_reducible rfl
      refine tkH 15 ?_ hS (fun wx hx => ?_) ?_; rotate_left
      · obtain ⟨⟨⟨hx0, hx1, hx2, hx3⟩, _⟩, ⟨⟨hy0, hy1, hy2, hy3⟩, _⟩, ⟨hz0, hz1, hz2, hz3⟩, _⟩ := hx; go_simp; try with_reducible rfl
      refine tkH 16 ?_ hS (fun wx hx => ?_) ?_; rotate_left
      · obtain ⟨⟨⟨hx0, hx1, hx2, hx3⟩, _⟩, ⟨⟨hy0, hy1, hy2, hy3⟩, _⟩, ⟨hz0, hz1, hz2, hz3⟩, _⟩ := hx; go_simp; try with_reducible rfl
      refine tkH 17 ?_ hS (fun wx hx => ?_) ?_; rotate_left
      · obtain ⟨⟨⟨hx0, hx1, hx2, hx3⟩, _⟩, ⟨⟨hy0, hy1, hy2, hy3⟩, _⟩, ⟨hz0, hz1, hz2, hz3⟩, _⟩ := hx; go_simp; try with_reducible rfl
      refine tkH 18 ?_ hS (fun wx hx => ?_) ?_; rotate_left
      · obtain ⟨⟨⟨hx0, hx1, hx2, hx3⟩, _⟩, ⟨⟨hy0, hy1, hy2, hy3⟩, _⟩, ⟨hz0, hz1, hz2, hz3⟩, _⟩ := hx; go_simp; try with_reducible rfl
      refine tkH 19 ?_ hS (fun wx hx => ?_) ?_; rotate_left
      · obtain ⟨⟨⟨hx0, hx1, hx2, hx3⟩, _⟩, ⟨⟨hy0, hy1, hy2, hy3⟩, _⟩, ⟨hz0, hz1, hz2, hz3⟩, _⟩ := hx; go_simp; try with_reducible rfl
      refine tkH 20 ?_ hS (fun wx hx => ?_) ?_; rotate_left
      · obtain ⟨⟨⟨hx0, hx1, hx2, hx3⟩, _⟩, ⟨⟨hy0, hy1, hy2, hy3⟩, _⟩, ⟨hz0, hz1, hz2, hz3⟩, _⟩ := hx; go_simp; try with_reducible rfl
      refine tkH 21 ?_ hS (fun wx hx => ?_) ?_; rotate_left
      · obtain ⟨⟨⟨hx0, hx1, hx2, hx3⟩, _⟩, ⟨⟨hy0, hy1, hy2, hy3⟩, _⟩, ⟨hz0, hz1, hz2, hz3⟩, _⟩ := hx; go_simp; try with_reducible rfl
      refine tkH 22 ?_ hS (fun wx hx => ?_) ?_; rotate_left
      · obtain ⟨⟨⟨hx0, hx1, hx2, hx3⟩, _⟩, ⟨⟨hy0, hy1, hy2, hy3⟩, _⟩, ⟨hz0, hz1, hz2, hz3⟩, _⟩ := hx; go_simp; try with_reducible rfl
      refine tkH 23 ?_ hS (fun wx hx => ?_) ?_; rotate_left
      · obtain ⟨⟨⟨hx0, hx1, hx2, hx3⟩, _⟩, ⟨⟨hy0, hy1, hy2, hy3⟩, _⟩, ⟨hz0, hz1, hz2, hz3⟩, _⟩ := hx; go_simp; try with_reducible rfl
      refine tkH 24 ?_ hS (fun wx hx => ?_) ?_; rotate_left
      · obtain ⟨⟨⟨hx0, hx1, hx2, hx3⟩, _⟩, ⟨⟨hy0, hy1, hy2, hy3⟩, _⟩, ⟨hz0, hz1, hz2, hz3⟩, _⟩ := hx; go_simp; try with_reducible rfl
      refine tkH 25 ?_ hS (fun wx hx => ?_) ?_; rotate_left
      · obtain ⟨⟨⟨hx0, hx1, hx2, hx3⟩, _⟩, ⟨⟨hy0, hy1, hy2, hy3⟩, _⟩, ⟨hz0, hz1, hz2, hz3⟩, _⟩ := hx; go_simp; try with_reducible rfl
      refine tkH 26 ?_ hS (fun wx hx => ?_) ?_; rotate_left
      · obtain ⟨⟨⟨hx0, hx1, hx2, hx3⟩, _⟩, ⟨⟨hy0, hy1, hy2, hy3⟩, _⟩, ⟨hz0, hz1, hz2, hz3⟩, _⟩ := hx; go_simp; try with_reducible rfl
      refine tkH 27 ?_ hS (fun wx hx => ?_) ?_; rotate_left
      · obtain ⟨⟨⟨hx0, hx1, hx2, hx3⟩, _⟩, ⟨⟨hy0, hy1, hy2, hy3⟩, _⟩, ⟨hz0, hz1, hz2, hz3⟩, _⟩ := hx; go_simp; try with_reducible rfl
      refine rdH 28 (fun K hK => ?_)
      go_simp
      go_wp2_with fail
      refine (implFs_is _ 0 R.length (rowL R) _ HE.out.1.res (by have := HR.out; omega)).mono ?_
      rintro e z2 ⟨rfl, q⟩
      rw [HFS.out]
      have hS1 := And.intro (hS.1.later q) (And.intro (hS.2.1.later q) (hS.2.2.later q))
      have H1 := hidA (And.intro (HE.out.1.later q) (HE.out.2.later q))
      clear q HE hS
      have HE := H1
      clear H1
      go_wp2_with fail
      refine hK.out _ _ hS1 (fun hS => ?_)
      clear hK K
      clear hS1
      refine tkH 29 ?_ hS (fun wx hx => ?_) ?_; rotate_left
      · obtain ⟨⟨⟨hx0, hx1, hx2, hx3⟩, _⟩, ⟨⟨hy0, hy1, hy2, hy3⟩, _⟩, ⟨hz0, hz1, hz2, hz3⟩, _⟩ := hx; go_simp; try with_reducible rfl
      refine tkH 30 ?_ hS (fun wx hx => ?_) ?_; rotate_left
      · obtain ⟨⟨⟨hx0, hx1, hx2, hx3⟩, _⟩, ⟨⟨hy0, hy1, hy2, hy3⟩, _⟩, ⟨hz0, hz1, hz2, hz3⟩, _⟩ := hx; go_simp; try with_reducible rfl
      refine tkH 31 ?_ hS (fun wx hx => ?_) ?_; rotate_left
      · obtain ⟨⟨⟨hx0, hx1, hx2, hx3⟩, _⟩, ⟨⟨hy0, hy1, hy2, hy3⟩, _⟩, ⟨hz0, hz1, hz2, hz3⟩, _⟩ := hx; go_simp; try with_reducible rfl
      refine tkH 32 ?_ hS (fun wx hx => ?_) ?_; rotate_left
      · obtain ⟨⟨⟨hx0, hx1, hx2, hx3⟩, _⟩, ⟨⟨hy0, hy1, hy2, hy3⟩, _⟩, ⟨hz0, hz1, hz2, hz3⟩, _⟩ := hx; go_simp; try with_reducible rfl
      refine tkH 33 ?_ hS (fun wx hx => ?_) ?_; rotate_left
      · obtain ⟨⟨⟨hx0, hx1, hx2, hx3⟩, _⟩, ⟨⟨hy0, hy1, hy2, hy3⟩, _⟩, ⟨hz0, hz1, hz2, hz3⟩, _⟩ := hx; go_simp; try with_reducible rfl
      refine tkH 34 ?_ hS (fun wx hx => ?_) ?_; rotate_left
      · obtain ⟨⟨⟨hx0, hx1, hx2, hx3⟩, _⟩, ⟨⟨hy0, hy1, hy2, hy3⟩, _⟩, ⟨hz0, hz1, hz2, hz3⟩, _⟩ := hx; go_simp; try with_reducible rfl
      refine tkH 35 ?_ hS (fun wx hx => ?_) ?_; rotate_left
      · obtain ⟨⟨⟨hx0, hx1, hx2, hx3⟩, _⟩, ⟨⟨hy0, hy1, hy2, hy3⟩, _⟩, ⟨hz0, hz1, hz2, hz3⟩, _⟩ := hx; go_simp; try with_reducible rfl
      refine rdH 36 (fun K hK => ?_)
      go_simp
      go_wp2_with fail
      refine (specRunFs_is _ _ 0 0 m k V G 0 (v1 + v2) R _ HE.out.1.row HE.out.1.ops (by omega) (by omega) HA.out).mono ?_
      rintro e z3 ⟨so, sc, rfl, _, _, q⟩
      have hS1 := And.intro (hS.1.later q) (And.intro (hS.2.1.later q) (hS.2.2.later q))
      have H1 := hidA (And.intro (HE.out.1.later q) (HE.out.2.later q))
      clear q HE hS
      have HE := H1
      clear H1
      go_wp2_with fail
      refine hK.out _ _ hS1 (fun hS => ?_)
      clear hK K
      clear hS1
      refine tkH 37 ?_ hS (fun wx hx => ?_) ?_; rotate_left
      · obtain ⟨⟨⟨hx0, hx1, hx2, hx3⟩, _⟩, ⟨⟨hy0, hy1, hy2, hy3⟩, _⟩, ⟨hz0, hz1, hz2, hz3⟩, _⟩ := hx; go_simp; try with_reducible rfl
      refine tkH 38 ?_ hS (fun wx hx => ?_) ?_; rotate_left
      · obtain ⟨⟨⟨hx0, hx1, hx2, hx3⟩, _⟩, ⟨⟨hy0, hy1, hy2, hy3⟩, _⟩, ⟨hz0, hz1, hz2, hz3⟩, _⟩ := hx; go_simp; try with_reducible rfl
      refine tkH 39 ?_ hS (fun wx hx => ?_) ?_; rotate_left
      · obtain ⟨⟨⟨hx0, hx1, hx2, hx3⟩, _⟩, ⟨⟨hy0, hy1, hy2, hy3⟩, _⟩, ⟨hz0, hz1, hz2, hz3⟩, _⟩ := hx; go_simp; try with_reducible rfl
      refine tkH 40 ?_ hS (fun wx hx => ?_) ?_; rotate_left
      · obtain ⟨⟨⟨hx0, hx1, hx2, hx3⟩, _⟩, ⟨⟨hy0, hy1, hy2, hy3⟩, _⟩, ⟨hz0, hz1, hz2, hz3⟩, _⟩ := hx; go_simp; try with_reducible rfl
      clear hS
      refine wpAnyH_done (by kernel_rfl) ?_ _
      go_simp
      have BB := hidA HE.out.1.below
      clear HE
      go_wp2
      go_ret
      exact ⟨by simp, BB.out⟩
end Go.Proofs.YtnchaccgenfhoaaGreat

