/-
  Own text. Chapter 5: what the draws of an oracle and a number do (spec.l5Draw, spec.DrawGrantMany): each returns, and turns nothing that was there.
-/
import Derived.Test.YtbljhkhpfhphgaaDrawB
import Derived.Test.YtbljhkhpfhphgaaOrcF
namespace Go.Proofs.Ytbljhkhpfhphgaa
open Go.RowKit

/-- A store into memory that is newer than the source turns neither the source nor what was there. -/
theorem Src.set {w X : World} {b : Nat} {o : Option Addr} {len cap : Nat} {a a0 : Int} (h0 : Src w b o len cap a0) (h : Src X b o len cap a ∧ But b w X) {c : Nat} (hc : w.heap.size ≤ c) (k : Nat) (v : Value) :
    Src (X.setCell ⟨c, k, none⟩ v) b o len cap a ∧ But b w (X.setCell ⟨c, k, none⟩ v) := by
  have hb := h0.lt
  have hB : But b w (X.setCell ⟨c, k, none⟩ v) := ⟨h.2.os, h.2.tape, h.2.output, by simpa [World.setCell] using h.2.size, fun i hi hne => (Below.heap_setCell X ⟨c, k, none⟩ v i (by simp; omega)).trans (h.2.block i hi hne)⟩
  refine ⟨?_, hB⟩
  exact {
    code := (World.cell?_setCell_other _ _ _ _ (fun e => by have := congrArg Addr.block e; simp at this; omega)).trans h.1.code
    count := (World.cell?_setCell_other _ _ _ _ (fun e => by have := congrArg Addr.block e; simp at this; omega)).trans h.1.count
    live := (World.frozen?_setCell _ _ _ _).trans h.1.live
    pos := h.1.pos
    bytes := fun j hj => by
      obtain ⟨g, off, n, e1, e2, e3, e4⟩ := h0.bytes j hj
      exact ⟨g, off, n, e1, e2, hB.cell e3 e2, e4⟩ }
theorem l1Max_any (a b : Int) (w : World) : Calls Try.prog 40 #[.int .i64 a, .int .i64 b] w fun e w' => ∃ m : Int, e = .returned (.int .i64 m) ∧ w' = w := by
  by_cases h : b < a
  · go_enter Try.func40, Try.ntmps40
    go_wp2
    go_ret
    exact ⟨_, rfl, rfl⟩
  · go_enter Try.func40, Try.ntmps40
    go_wp2
    go_ret
    exact ⟨⟨_, rfl⟩, rfl⟩

set_option maxHeartbeats 2000000 in
theorem l5Draw_any (w : World) (b : Nat) (o : Option Addr) (len cap : Nat) (a : Int) (h : Src w b o len cap a) (ha : a ≤ 900000) (hl : len ≤ 1048576) :
    Calls Try.prog 27 #[.pointer (some ⟨b, 0, none⟩)] w fun e w' => ∃ x y a' : Int, e = .returned (.agg #[.int .i64 x, .int .i64 y]) ∧ a' ≤ a + 10 ∧ Src w' b o len cap a' ∧ But b w w' := by
  have H0 : Hid (Src w b o len cap a) := h
  have hp := h.pos
  have hb := h.lt
  clear h
  go_enter Try.func27, Try.ntmps27
  go_wp2_with fail
  refine (l1Next_any _ b o len cap a 99 (H0.out.alloc _) (by omega) hl).mono ?_
  rintro e w1 ⟨r, rfl, r0, r1, hS, hT⟩
  have r4 : r < 99 := r1 (by omega)
  have R : Hid (Blok w1 w.heap.size 25 #[.int .i64 0, .int .i64 0]) := (Blok.new w _ _).kept hT (fun e => by cases e; omega)
  have H1 : Hid (Src w1 b o len cap (a + 1) ∧ But b w w1) := ⟨hS, ((But.refl b w).alloc _).trans hT⟩
  clear r1 hS hT
  go_wp2_with fail
  refine (l1Next_any _ b o len cap (a + 1) 11 H1.out.1 (by omega) hl).mono ?_
  rintro e w2 ⟨s, rfl, s0, s1, hS, hT⟩
  have s3 : s < 11 := s1 (by omega)
  replace R : Hid (Blok w2 w.heap.size 25 #[.int .i64 0, .int .i64 0]) := R.out.kept hT (fun e => by cases e; omega)
  have H2 : Hid (Src w2 b o len cap (a + 1 + 1) ∧ But b w w2) := ⟨hS, H1.out.2.trans hT⟩
  clear s1 hS hT H1
  go_wp2_with fail
  refine (l1Max_any _ _ _).mono ?_
  rintro e w' ⟨m, rfl, rfl⟩
  go_wp2_with fail
  refine (l1Next_any _ b o len cap (a + 1 + 1) 10 (H2.out.1.alloc _) (by omega) hl).mono ?_
  rintro e w3 ⟨t, rfl, t0, t1, hS, hT⟩
  have t3 : t < 10 := t1 (by omega)
  have hz2 : w.heap.size < w'.heap.size := R.out.lt
  have P : Hid (Blok w3 w'.heap.size 25 #[.int .i64 m, .int .i64 (1 + r)]) := (Blok.new w' _ _).kept hT (fun e => by cases e; omega)
  replace R : Hid (Blok w3 w.heap.size 25 #[.int .i64 0, .int .i64 0]) := (R.out.alloc _).kept hT (fun e => by cases e; omega)
  have H3 : Hid (Src w3 b o len cap (a + 1 + 1 + 1) ∧ But b w w3) := ⟨hS, (H2.out.2.alloc _).trans hT⟩
  clear t1 hS hT H2
  have e0 : w3.cell? ⟨w'.heap.size, 0, none⟩ = some (.int .i64 m) := P.out.cell rfl
  have e1 : w3.cell? ⟨w'.heap.size, 1, none⟩ = some (.int .i64 (1 + r)) := P.out.cell rfl
  have f0 := P.out.frozen 0
  have f1 := P.out.frozen 1
  have c0 : w3.cell? ⟨w.heap.size, 0, none⟩ = some (.int .i64 0) := R.out.cell rfl
  have c1 : w3.cell? ⟨w.heap.size, 1, none⟩ = some (.int .i64 0) := R.out.cell rfl
  have g0 := R.out.frozen 0
  have g1 := R.out.frozen 1
  by_cases q0 : t = 0
  · subst q0
    go_wp2_with fail
    have hI : Ints (w3.alloc (.cells #[.int .i64 0, .int .i64 (1 + r + 1), .int .i64 100001] 2)) w3.heap.size (.slice (some ⟨w3.heap.size, 0, none⟩) 3 3) [0, 1 + r + 1, 100001] := World.ownsRow_lit w3 #[.int .i64 0, .int .i64 (1 + r + 1), .int .i64 100001] 3 (Nat.le_refl _) (by decide) rfl
    refine (l1Pick_any _ b o len cap (a + 1 + 1 + 1) _ w3.heap.size [0, 1 + r + 1, 100001] (H3.out.1.alloc _) (by omega) hl hI H3.out.1.lt (by simp) (by simp)).mono ?_
    rintro e w5 ⟨k, rfl, _, hS, hT⟩
    have HR : Hid (Src w5 b o len cap (a + 1 + 1 + 1 + 1) ∧ But b w w5) := ⟨hS, (H3.out.2.alloc _).trans hT⟩
    replace P : Hid (Blok w5 w'.heap.size 25 #[.int .i64 m, .int .i64 (1 + r)]) := (P.out.alloc _).kept hT (fun e => by cases e; omega)
    replace R : Hid (Blok w5 w.heap.size 25 #[.int .i64 0, .int .i64 0]) := (R.out.alloc _).kept hT (fun e => by cases e; omega)
    clear hS hT hI H3 e0 e1 f0 f1 c0 c1 g0 g1
    have e0 : w5.cell? ⟨w'.heap.size, 0, none⟩ = some (.int .i64 m) := P.out.cell rfl
    have e1 : w5.cell? ⟨w'.heap.size, 1, none⟩ = some (.int .i64 (1 + r)) := P.out.cell rfl
    have f0 := P.out.frozen 0
    have f1 := P.out.frozen 1
    have c0 : w5.cell? ⟨w.heap.size, 0, none⟩ = some (.int .i64 0) := R.out.cell rfl
    have c1 : w5.cell? ⟨w.heap.size, 1, none⟩ = some (.int .i64 0) := R.out.cell rfl
    have g0 := R.out.frozen 0
    have g1 := R.out.frozen 1
    go_wp2
    refine bodyPost_ret (v := .agg #[.int .i64 k, .int .i64 (1 + r)]) (by simp [results, Try.results27, go_sem, c0, c1]) rfl ⟨k, (1 + r), (a + 1 + 1 + 1 + 1), rfl, by omega, ?_⟩
    exact H0.out.set (H0.out.set (H0.out.set HR.out (Nat.le_of_lt hz2) _ _) (Nat.le_refl _) _ _) (Nat.le_refl _) _ _
  · have d0 : (t == 0) = false := beq_eq_false_iff_ne.2 q0
    by_cases q1 : t = 1
    · subst q1
      clear d0 q0
      go_wp2
      refine bodyPost_ret (v := .agg #[.int .i64 99995, .int .i64 99995]) (by simp [results, Try.results27, go_sem, c0, c1]) rfl ⟨99995, 99995, (a + 1 + 1 + 1), rfl, by omega, ?_⟩
      exact H0.out.set (H0.out.set (H0.out.set (H0.out.set H3.out (Nat.le_of_lt hz2) _ _) (Nat.le_of_lt hz2) _ _) (Nat.le_refl _) _ _) (Nat.le_refl _) _ _
    · have d1 : (t == 1) = false := beq_eq_false_iff_ne.2 q1
      by_cases q2 : t = 2
      · subst q2
        clear d0 q0 d1 q1
        go_wp2
        refine bodyPost_ret (v := .agg #[.int .i64 99985, .int .i64 99990]) (by simp [results, Try.results27, go_sem, c0, c1]) rfl ⟨99985, 99990, (a + 1 + 1 + 1), rfl, by omega, ?_⟩
        exact H0.out.set (H0.out.set (H0.out.set (H0.out.set H3.out (Nat.le_of_lt hz2) _ _) (Nat.le_of_lt hz2) _ _) (Nat.le_refl _) _ _) (Nat.le_refl _) _ _
      · have d2 : (t == 2) = false := beq_eq_false_iff_ne.2 q2
        clear q0 q1 q2
        go_wp2
        refine bodyPost_ret (v := .agg #[.int .i64 m, .int .i64 (1 + r)]) (by simp [results, Try.results27, go_sem, c0, c1]) rfl ⟨m, (1 + r), (a + 1 + 1 + 1), rfl, by omega, ?_⟩
        exact H0.out.set (H0.out.set H3.out (Nat.le_refl _) _ _) (Nat.le_refl _) _ _

end Go.Proofs.Ytbljhkhpfhphgaa
