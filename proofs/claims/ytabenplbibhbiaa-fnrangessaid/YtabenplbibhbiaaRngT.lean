/-
  Own text. What chapter 6 draws, bent: spec.l6Bent, spec.DrawSplitRange; and the law FnRanges.
-/
import Derived.Test.YtabenplbibhbiaaRngQ
namespace Go.Proofs.Ytabenplbibhbiaa
open Go.RowKit

theorem Row.put {x : World} {B n g o cp : Nat} {F : Nat → Int} (h : Row x B 3 n F (.slice (some ⟨g, o, none⟩) n cp)) {q : Nat} (hq : q < n * 3) (v : Int) : Row (x.setCell ⟨g, o + q, none⟩ (.int .i64 v)) B 3 n (fun p => if p = q then v else F p) (.slice (some ⟨g, o, none⟩) n cp) := by
  obtain ⟨ao, cp', hv, h⟩ := h
  simp only [Value.slice.injEq] at hv
  obtain ⟨rfl, _, rfl⟩ := hv
  refine ⟨_, _, rfl, fun hn => ?_⟩
  obtain ⟨g', o', he, hB, hg, hc⟩ := h hn
  simp only [Option.some.injEq, Addr.mk.injEq, and_true] at he
  obtain ⟨rfl, rfl⟩ := he
  refine ⟨g, o, rfl, hB, by simpa [World.setCell] using hg, fun p hp => ?_⟩
  dsimp only
  by_cases e : p = q
  · subst e
    rw [if_pos rfl]
    exact World.cell?_setCell_same _ _ _ (hc p hp)
  · rw [if_neg e]
    exact (World.cell?_setCell_other _ _ _ _ (by intro q'; simp at q'; try omega)).trans (hc p hp)
theorem Src.keep {w X X' : World} {b : Nat} {o : Option Addr} {len cap : Nat} {a a0 : Int} (h0 : Src w b o len cap a0) (h : Src X b o len cap a) (hT : But b w X) {row : Option Nat} (gr : X.grownBy X' row) (hr : ∀ r, row = some r → w.heap.size ≤ r) : Src X' b o len cap a ∧ But b w X' := by
  have hb := h0.lt
  have hbX : b < X.heap.size := Nat.lt_of_lt_of_le hb hT.size
  have kb : X'.heap[b]? = X.heap[b]? := gr.block b hbX (fun e => by have := hr b e.symm; omega)
  have hB : But b w X' := ⟨gr.os.trans hT.os, gr.tape.trans hT.tape, gr.output.trans hT.output, Nat.le_trans hT.size gr.size, fun i hi hne => (gr.block i (Nat.lt_of_lt_of_le hi hT.size) (fun e => by have := hr i e.symm; omega)).trans (hT.block i hi hne)⟩
  refine ⟨⟨(World.cell?_of_block (w := X) (a := ⟨b, 0, none⟩) kb).trans h.code, (World.cell?_of_block (w := X) (a := ⟨b, 1, none⟩) kb).trans h.count, (World.frozen?_of_block (w := X) (a := ⟨b, 1, none⟩) kb).trans h.live, h.pos, fun j hj => ?_⟩, hB⟩
  obtain ⟨g, off, n, e1, e2, e3, e4⟩ := h0.bytes j hj
  exact ⟨g, off, n, e1, e2, hB.cell e3 e2, e4⟩
theorem Row.turnedB {w w' : World} {b m n : Nat} {F : Nat → Int} {v : Value} (h : Row w (b + 1) m n F v) (hT : But b w w') : Row w' (b + 1) m n F v := by
  rcases Nat.eq_zero_or_pos n with e | e
  · subst e
    obtain ⟨ao, cp, rfl, _⟩ := h
    exact ⟨ao, cp, rfl, fun q => absurd q (Nat.lt_irrefl 0)⟩
  · exact h.kept hT.size (fun k hk hlt => hT.block k hlt (fun e' => by have := Option.some.inj e'; have := (h.lt e k hk).1; omega))
/-- What l6Bent answers. -/
def BentS (w : World) (b : Nat) (o : Option Addr) (len cap : Nat) (a : Int) (e : Ending) (w' : World) : Prop := ∃ (n : Nat) (F : Nat → Int) (ao : Option Addr) (cp : Nat) (a' : Int), e = .returned (.slice ao n cp) ∧ a' ≤ a + 110 ∧ 0 ≤ a' ∧ Row w' w.heap.size 3 n F (.slice ao n cp) ∧ (n ≤ 7 ∧ n ≤ cp) ∧ Src w' b o len cap a' ∧ But b w w'
set_option maxRecDepth 100000 in
set_option maxHeartbeats 4000000 in
theorem l6Bent_any (w : World) (b : Nat) (o : Option Addr) (len cap : Nat) (a : Int) (h : Src w b o len cap a) (ha : a ≤ 800000) (hl : len ≤ 1048576) :
    Calls Try.prog 31 #[.pointer (some ⟨b, 0, none⟩)] w (BentS w b o len cap a) := by
  have H : Hid (Src w b o len cap a) := h
  have hp := h.pos
  have hbw := h.lt
  clear h
  go_enter Try.func31, Try.ntmps31
  go_wp2_with fail
  refine (l6Right_any _ b o len cap a H.out (by omega) hl).mono ?_
  rintro e w1 ⟨n, ao, cp, L, a1, rfl, ha1, hR1⟩
  have HR1 : Hid (RightS w b o len cap n ao cp L a1 w1) := hR1
  clear hR1
  go_wp2_with fail
  refine (l1Next_any _ b o len cap a1 14 HR1.out.2.1 (by omega) hl).mono ?_
  rintro e w2 ⟨q, rfl, hq0, _, hS2, hT2⟩
  have HR : Hid (RightS w b o len cap n ao cp L (a1 + 1) w2) := HR1.out.but hbw hS2 hT2
  have hn1 := HR.out.1.2.2.n1
  have hn6 := HR.out.1.2.2.n6
  have ha0 := HR.out.2.1.pos
  clear hS2 hT2 HR1
  by_cases q0 : q = 0
  · subst q0
    have HW : Hid (Row w2 w.heap.size 3 n (fun p => L.getD p 0) (.slice ao n cp) ∧ Free w2 (n * 3) (.slice ao n cp)) := (HR.out.1.1.own HR.out.1.2.1).row
    obtain ⟨g, off, hao, hBg, _⟩ := HW.out.1.at (k := 0) (by omega)
    subst hao
    have hI : Hid (Ints (w2.alloc (.cells #[.int .i64 0, .int .i64 9999, .int .i64 10000] 2)) w2.heap.size (.slice (some ⟨w2.heap.size, 0, none⟩) 3 3) [0, 9999, 10000]) := World.ownsRow_lit w2 #[.int .i64 0, .int .i64 9999, .int .i64 10000] 3 (Nat.le_refl _) (by decide) rfl
    go_wp2_with fail
    refine (l1Pick_any _ b o len cap (a1 + 1) _ w2.heap.size [0, 9999, 10000] (HR.out.2.1.alloc _) (by omega) hl hI.out HR.out.2.1.lt (by simp) (by simp)).mono ?_
    rintro e w3 ⟨v, rfl, _, hS3, hT3⟩
    have hgb : g ≠ b := by omega
    have H3 : Hid (RightS w b o len cap n (some ⟨g, off, none⟩) cp L (a1 + 1 + 1) w3) := (HR.out.later (below_alloc _ _)).but hbw hS3 hT3
    have HW3 : Hid (Row w3 w.heap.size 3 n (fun p => L.getD p 0) (.slice (some ⟨g, off, none⟩) n cp) ∧ Free w3 (n * 3) (.slice (some ⟨g, off, none⟩) n cp)) := (H3.out.1.1.own H3.out.1.2.1).row
    clear hS3 hT3 hI HW HR
    obtain ⟨hg3, z0, z1, z2⟩ := HW3.out.1.cell3 (k := 0) (by omega)
    have fz := HW3.out.2 g off n cp rfl 2 (by omega)
    rw [Nat.zero_mul] at z2
    simp only [Nat.add_zero] at z2
    have z2' : w3.cell? ⟨g, off + 2, none⟩ = some (.int .i64 (L.getD 2 0)) := z2
    have hn0 : 0 < n := by omega
    clear z0 z1 z2
    have S4 := Src.setR H.out H3.out.2.1 H3.out.2.2 hBg (off + 2) (.int .i64 v)
    have HS4 : Hid (Src (w3.setCell ⟨g, off + 2, none⟩ (.int .i64 v)) b o len cap (a1 + 1 + 1) ∧ But b w (w3.setCell ⟨g, off + 2, none⟩ (.int .i64 v))) := S4
    have HR4 : Hid (Row (w3.setCell ⟨g, off + 2, none⟩ (.int .i64 v)) w.heap.size 3 n (fun p => if p = 2 then v else L.getD p 0) (.slice (some ⟨g, off, none⟩) n cp)) := HW3.out.1.put (by omega) v
    have hcap : n ≤ cp := H3.out.1.1.cap
    clear S4 H3 HW3
    go_wp2
    go_ret
    exact ⟨n, _, some ⟨g, off, none⟩, cp, a1 + 1 + 1, rfl, by omega, by omega, HR4.out, ⟨by omega, hcap⟩, HS4.out⟩
  by_cases q1 : q = 1
  · subst q1
    have HW : Hid (Row w2 w.heap.size 3 n (fun p => L.getD p 0) (.slice ao n cp) ∧ Free w2 (n * 3) (.slice ao n cp)) := (HR.out.1.1.own HR.out.1.2.1).row
    obtain ⟨g, off, hao, hBg, _⟩ := HW.out.1.at (k := 0) (by omega)
    subst hao
    have hI : Hid (Ints (w2.alloc (.cells #[.int .i64 199, .int .i64 201, .int .i64 0] 2)) w2.heap.size (.slice (some ⟨w2.heap.size, 0, none⟩) 3 3) [199, 201, 0]) := World.ownsRow_lit w2 #[.int .i64 199, .int .i64 201, .int .i64 0] 3 (Nat.le_refl _) (by decide) rfl
    go_wp2_with fail
    refine (l1Pick_any _ b o len cap (a1 + 1) _ w2.heap.size [199, 201, 0] (HR.out.2.1.alloc _) (by omega) hl hI.out HR.out.2.1.lt (by simp) (by simp)).mono ?_
    rintro e w3 ⟨v, rfl, _, hS3, hT3⟩
    have hgb : g ≠ b := by omega
    have H3 : Hid (RightS w b o len cap n (some ⟨g, off, none⟩) cp L (a1 + 1 + 1) w3) := (HR.out.later (below_alloc _ _)).but hbw hS3 hT3
    have HW3 : Hid (Row w3 w.heap.size 3 n (fun p => L.getD p 0) (.slice (some ⟨g, off, none⟩) n cp) ∧ Free w3 (n * 3) (.slice (some ⟨g, off, none⟩) n cp)) := (H3.out.1.1.own H3.out.1.2.1).row
    clear hS3 hT3 hI HW HR
    obtain ⟨hg3, z0, z1, z2⟩ := HW3.out.1.cell3 (k := n - 1) (by omega)
    have fz := HW3.out.2 g off n cp rfl ((n - 1) * 3 + 1) (by omega)
    rw [← Nat.add_assoc] at fz
    have hn0 : n - 1 < n := by omega
    have hwn : IntKind.i64.wrap ((n : Int) - 1) = ((n - 1 : Nat) : Int) := by simp [IntKind.wrap, IntKind.bits, IntKind.signed]; omega
    clear z0 z2
    have S4 := Src.setR H.out H3.out.2.1 H3.out.2.2 hBg (off + (n - 1) * 3 + 1) (.int .i64 v)
    have HS4 : Hid (Src (w3.setCell ⟨g, off + (n - 1) * 3 + 1, none⟩ (.int .i64 v)) b o len cap (a1 + 1 + 1) ∧ But b w (w3.setCell ⟨g, off + (n - 1) * 3 + 1, none⟩ (.int .i64 v))) := S4
    have HR4 : Hid (Row (w3.setCell ⟨g, off + (n - 1) * 3 + 1, none⟩ (.int .i64 v)) w.heap.size 3 n (fun p => if p = (n - 1) * 3 + 1 then v else L.getD p 0) (.slice (some ⟨g, off, none⟩) n cp)) := by
      have hput := HW3.out.1.put (q := (n - 1) * 3 + 1) (by omega) v
      rw [← Nat.add_assoc] at hput
      exact hput
    have hcap : n ≤ cp := H3.out.1.1.cap
    clear S4 H3 HW3
    go_wp2
    go_ret
    exact ⟨n, _, some ⟨g, off, none⟩, cp, a1 + 1 + 1, rfl, by omega, by omega, HR4.out, ⟨by omega, hcap⟩, HS4.out⟩
  by_cases q2 : q = 2
  · subst q2
    obtain ⟨i0, hi0, hz0, hz1, hz2⟩ := info_parts info_Range
    have hsz : w.heap.size ≤ w2.heap.size := HR.out.2.2.size
    go_wp2_with (at_builtin; refine wpList_app 34 i0 (.agg #[.int .i64 0, .int .i64 0, .int .i64 0]) 3 24 rfl _ _ 24 rfl Try.underlying24 hi0 hz0 hz1 hz2 rfl (by omega) (by omega) _ w.heap.size n L _ rfl (HR.out.1.1.later (below_alloc _ _)) 0 1 (fun p => [200, 201, 1].getD p 0) _ rfl (row_lit3 _ 200 201 1 _ _ rfl) (by omega) (by simp; omega) ?_; intro ao1 cp1 w3 O3 G3)
    have K3 := Src.keep H.out (HR.out.2.1.later (below_alloc w2 (.cells #[.int .i64 200, .int .i64 201, .int .i64 1] 34))) (HR.out.2.2.below (below_alloc _ _)) G3 (fun r e => (HR.out.1.1.block r e).1)
    go_ret
    exact ⟨n + 1, _, ao1, cp1, a1 + 1, rfl, by omega, by omega, O3.rowL (by rw [List.length_append, HR.out.1.2.1, nums_length]; omega), ⟨by omega, O3.cap⟩, K3⟩
  have d0 : (q == 0) = false := beq_eq_false_iff_ne.2 q0
  have d1 : (q == 1) = false := beq_eq_false_iff_ne.2 q1
  have d2 : (q == 2) = false := beq_eq_false_iff_ne.2 q2
  by_cases q3 : q = 3
  · subst q3
    go_wp2
    go_ret
    exact ⟨0, fun _ => 0, none, 0, a1 + 1, rfl, by omega, by omega, ⟨_, _, rfl, fun q => absurd q (Nat.lt_irrefl 0)⟩, ⟨by omega, Nat.le_refl _⟩, HR.out.2⟩
  have d3 : (q == 3) = false := beq_eq_false_iff_ne.2 q3
  go_wp2
  go_ret
  exact ⟨n, _, ao, cp, a1 + 1, rfl, by omega, by omega, HR.out.1.1.rowL HR.out.1.2.1, ⟨by omega, HR.out.1.1.cap⟩, HR.out.2⟩
set_option maxRecDepth 100000 in
set_option maxHeartbeats 4000000 in
theorem drawSplit_any (w : World) (o : Option Addr) (len cap : Nat) (h : Code w o len) (hl : len ≤ 1048576) :
    Calls Try.prog 10 #[.slice o len cap] w (Drawn w) := by
  have H : Hid (Code w o len) := h
  clear h
  go_enter Try.func10, Try.ntmps10
  go_wp2_with fail
  refine (l1Source_any _ o len cap H.out).mono ?_
  rintro e w1 ⟨rfl, hS, hb, hz⟩
  have H1 : Hid (Src w1 w.heap.size o len cap 0 ∧ Below w.heap.size w w1) := ⟨hS, hb⟩
  clear hS hb
  go_wp2_with fail
  refine (l6Bent_any _ w.heap.size o len cap 0 H1.out.1 (by omega) hl).mono ?_
  rintro e w2 ⟨n, F, ao, cp, a1, rfl, ha1, ha0, R2, hn, hS2, hT2⟩
  have H2 : Hid (Src w2 w.heap.size o len cap a1 ∧ Below w.heap.size w w2) := ⟨hS2, Below.but H1.out.2 hT2 H1.out.2.size (Nat.le_refl _)⟩
  have R2' : Hid (Row w2 (w.heap.size + 1) 3 n F (.slice ao n cp)) := R2.mono (by omega)
  have HN : Hid (n ≤ 7 ∧ n ≤ cp) := hn
  clear R2 hn hS2 hT2 H1
  go_wp2_with fail
  refine (l1Next_any _ w.heap.size o len cap a1 199 H2.out.1 (by omega) hl).mono ?_
  rintro e w3 ⟨r1, rfl, p0, p1, hS3, hT3⟩
  have p2 : r1 < 199 := p1 (by omega)
  have H3 : Hid (Src w3 w.heap.size o len cap (a1 + 1) ∧ Below w.heap.size w w3) := ⟨hS3, Below.but H2.out.2 hT3 H2.out.2.size (Nat.le_refl _)⟩
  have R3 : Hid (Row w3 (w.heap.size + 1) 3 n F (.slice ao n cp)) := R2'.out.turnedB hT3
  have hw1 : IntKind.i64.wrap (1 + r1) = 1 + r1 := by simp [IntKind.wrap, IntKind.bits, IntKind.signed]; omega
  clear hS3 hT3 H2 R2' p1
  go_wp2_with fail
  refine (l1Next_any _ w.heap.size o len cap (a1 + 1) 199 H3.out.1 (by omega) hl).mono ?_
  rintro e w4 ⟨r2, rfl, s0, s1, hS4, hT4⟩
  have s2 : r2 < 199 := s1 (by omega)
  have H4 : Hid (Src w4 w.heap.size o len cap (a1 + 1 + 1) ∧ Below w.heap.size w w4) := ⟨hS4, Below.but H3.out.2 hT4 H3.out.2.size (Nat.le_refl _)⟩
  have R4 : Hid (Row w4 (w.heap.size + 1) 3 n F (.slice ao n cp)) := R3.out.turnedB hT4
  have hw2 : IntKind.i64.wrap (1 + r2) = 1 + r2 := by simp [IntKind.wrap, IntKind.bits, IntKind.signed]; omega
  clear hS4 hT4 H3 R3 s1
  have hI : Hid (Ints (w4.alloc (.cells #[.int .i64 10, .int .i64 20, .int .i64 (1 + r1), .int .i64 (1 + r2), .int .i64 0, .int .i64 200] 2)) w4.heap.size (.slice (some ⟨w4.heap.size, 0, none⟩) 6 6) [10, 20, 1 + r1, 1 + r2, 0, 200]) := World.ownsRow_lit w4 #[.int .i64 10, .int .i64 20, .int .i64 (1 + r1), .int .i64 (1 + r2), .int .i64 0, .int .i64 200] 6 (Nat.le_refl _) (by decide) rfl
  go_wp2_with fail
  refine (l1Pick_any _ w.heap.size o len cap (a1 + 1 + 1) _ w4.heap.size [10, 20, 1 + r1, 1 + r2, 0, 200] (H4.out.1.alloc _) (by omega) hl hI.out H4.out.1.lt (by simp) (by simp)).mono ?_
  rintro e w5 ⟨v, rfl, _, _, hT5⟩
  have B5 : Hid (Below w.heap.size w w5) := Below.but (H4.out.2.alloc H4.out.2.size _) hT5 (by have := H4.out.2.size; simp; omega) (Nat.le_refl _)
  have R5 : Hid (Row w5 (w.heap.size + 1) 3 n F (.slice ao n cp)) := (R4.out.alloc _).turnedB hT5
  clear hT5 H4 R4 hI
  go_wp2
  go_ret2
  exact ⟨n, F, ao, cp, v, rfl, R5.out.mono (Nat.le_succ _), HN.out.1, HN.out.2, B5.out⟩
theorem fnRanges_walk (o : Option Addr) (len cap : Nat) (w : World) (h : Code w o len) (hl0 : len ≤ maxLen) :
    Calls Try.prog 3 #[.slice o len cap] w fun e w' => e = .returned (.bool true) ∧ Below w.heap.size w w' :=
  fnRanges_over o len cap w hl0 (fun hl => drawSplit_any w o len cap h hl)
end Go.Proofs.Ytabenplbibhbiaa
