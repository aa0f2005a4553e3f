/-
  Own text. The walk of the law FnOracles: over every code of bytes it returns true and turns nothing that was there.
-/
import Derived.Test.YtbljhkhpfhphgaaOrcH
import Derived.Test.YtbljhkhpfhphgaaOrcJ
namespace Go.Proofs.Ytbljhkhpfhphgaa
open Go.RowKit

theorem ansC_cons {q : Q4} {xs : List Q4} (h : q.1 = 0) : ansC (q :: xs) = ansC xs := by
  cases xs with
  | nil => exact h
  | cons r xs => simp [ansC]
theorem orA_cons (a : Int) (q : Q4) (xs : List Q4) : orA a (q :: xs) = orA q.2.2.1 xs := by
  cases xs with
  | nil => rfl
  | cons r xs => simp [orA, List.getLast?_cons]
theorem orB_cons (b : Int) (q : Q4) (xs : List Q4) : orB b (q :: xs) = orB q.2.2.2 xs := by
  cases xs with
  | nil => rfl
  | cons r xs => simp [orB, List.getLast?_cons]
theorem up_cons (a : Int) (N : Nat) : a :: up (a + 1) N = up a (N + 1) := by
  unfold up
  rw [List.range_succ_eq_map, List.map_cons, List.map_map]
  simp only [List.cons.injEq]
  refine ⟨by simp, List.map_congr_left fun j _ => ?_⟩
  simp only [Function.comp]
  push_cast
  omega
/-- Where every grant goes through, the times follow one behind the other. -/
theorem gl_all : ∀ (N : Nat) (a b : Int), oFault a b = 0 → ansC (gl N a b) = 0 → tms (gl N a b) = up a N ∧ orA a (gl N a b) = a + N ∧ oFault (orA a (gl N a b)) (orB b (gl N a b)) = 0
  | 0, a, b, h, _ => ⟨rfl, by simp [gl, orA], by simpa [gl, orA, orB] using h⟩
  | N + 1, a, b, h, hc => by
    have hg : grantC a b = 0 := by
      apply Classical.byContradiction
      intro hg
      rw [gl_bad hg] at hc
      exact hg hc
    rw [gl_good hg, ansC_cons (show (gq a b).1 = 0 from hg)] at hc
    obtain ⟨h1, h2, h3⟩ := gl_all N _ _ (grant_next h hg) hc
    have hn : ¬ (a = b ∧ 99990 < b) := by
      intro k
      unfold grantC at hg
      rw [if_pos k] at hg
      omega
    have e1 : grantN a b = a + 1 := by unfold grantN; rw [if_neg hn]
    have e2 : grantT a b = a := by unfold grantT; rw [if_neg hn]
    rw [gl_good hg]
    refine ⟨?_, ?_, ?_⟩
    · show grantT a b :: tms (gl N (grantN a b) (grantB a b)) = _
      rw [h1, e2, e1, up_cons]
    · rw [orA_cons]
      show orA (grantN a b) _ = _
      rw [h2, e1]
      push_cast
      omega
    · rw [orA_cons, orB_cons]; exact h3
/-- What both answer, and what that is where there is no code. -/
theorem many_more (a b n : Int) : ∃ (c : Int) (L : List Int) (x y : Int), L.length ≤ 100 ∧ Hid (ManyAns 12 a b n c L x y) ∧ Hid (ManyAns 11 a b n c L x y) ∧
    (c = 0 → ∃ N : Nat, N ≤ 100 ∧ n = N ∧ L = up a N ∧ x = a + N ∧ oFault x y = 0 ∧ oFault a b = 0) := by
  by_cases h : oFault a b = 0
  · by_cases hn : n < 0 ∨ 100 < n
    · exact ⟨3, [], 0, 0, Nat.zero_le _, fun w => (specMany_range a b n w h hn).mono fun e w' ⟨he, hb⟩ => ⟨_, he, Ints.nil _ _, hb⟩, fun w => (implMany_range a b n w h hn).mono fun e w' ⟨he, hb⟩ => ⟨_, he, Ints.nil _ _, hb⟩, fun e => by omega⟩
    · obtain ⟨N, rfl⟩ : ∃ N : Nat, n = N := ⟨n.toNat, by omega⟩
      refine ⟨_, _, _, _, Nat.le_trans ansL_le (by omega), fun w => specMany_ok a b N w h (by omega), fun w => implMany_ok a b N w h (by omega), fun hc => ?_⟩
      obtain ⟨h1, h2, h3⟩ := gl_all N a b h hc
      refine ⟨N, by omega, rfl, ?_, ?_, ?_, h⟩
      · unfold ansL; rw [if_pos hc]; exact h1
      · unfold ansA; rw [if_pos hc]; exact h2
      · unfold ansA ansB; rw [if_pos hc, if_pos hc]; exact h3
  · exact ⟨_, [], 0, 0, Nat.zero_le _, fun w => (specMany_bad a b n w h).mono fun e w' ⟨he, hb⟩ => ⟨_, he, Ints.nil _ _, hb⟩, fun w => (implMany_bad a b n w h).mono fun e w' ⟨he, hb⟩ => ⟨_, he, Ints.nil _ _, hb⟩, fun e => absurd e h⟩

theorem field_times0 (c x y : Int) (o : Option Addr) (n k : Nat) (w : World) : (Instr.field 30 (.agg #[.int .i64 c, .slice o n k, .int .i64 x, .int .i64 y]) 0).run Try.prog w = .ok (.int .i64 c) w := by kernel_rfl

/-- What the law's region with a code holds. -/
def Ora (w : World) (g1 g2 : Nat) (a b c : Int) (v : Value) (x y : Int) (X : World) : Prop :=
  (X.cell? ⟨g1, 0, none⟩ = some (.int .i64 a) ∧ X.cell? ⟨g1, 1, none⟩ = some (.int .i64 b) ∧ X.cell? ⟨g2, 0, none⟩ = some (.int .i64 c)) ∧ Blok X g1 25 #[.int .i64 a, .int .i64 b] ∧ Blok X g2 30 #[.int .i64 c, v, .int .i64 x, .int .i64 y] ∧ Below w.heap.size w X
theorem Ora.mk' {w X : World} {g1 g2 : Nat} {a b c : Int} {v : Value} {x y : Int} (h1 : Blok X g1 25 #[.int .i64 a, .int .i64 b]) (h2 : Blok X g2 30 #[.int .i64 c, v, .int .i64 x, .int .i64 y]) (h3 : Below w.heap.size w X) : Ora w g1 g2 a b c v x y X :=
  ⟨⟨h1.cell rfl, h1.cell rfl, h2.cell rfl⟩, h1, h2, h3⟩

set_option maxRecDepth 100000 in
set_option maxHeartbeats 4000000 in
theorem fnOracles_walk (o : Option Addr) (len cap : Nat) (w : World) (h : Code w o len) (hl0 : len ≤ maxLen) :
    Calls Try.prog 3 #[.slice o len cap] w fun e w' => e = .returned (.bool true) ∧ Below w.heap.size w w' := by
  unfold maxLen at hl0
  have H : Hid (Code w o len) := h
  clear h
  by_cases hbig : 1048576 < (len : Int)
  · go_enter Try.func3, Try.ntmps3
    go_wp2_with (first | (go_at_call 9; go_in) | fail)
    go_ret
    exact ⟨rfl, Below.refl _ _⟩
  have hl : len ≤ 1048576 := by omega
  have d0 : decide (1048576 < (len : Int)) = false := decide_eq_false hbig
  go_enter Try.func3, Try.ntmps3
  go_wp2_with (first | (go_at_call 9; go_in) | fail)
  refine (drawMany_any _ o len cap H.out hl).mono ?_
  rintro e w1 ⟨a, b, n, rfl, b1⟩
  have B : Hid (Below w.heap.size w w1) := b1
  clear b1
  obtain ⟨c, L, x, y, hL, HS, HI, hM⟩ := many_more a b n
  have HM : Hid (c = 0 → ∃ N : Nat, N ≤ 100 ∧ n = N ∧ L = up a N ∧ x = a + N ∧ oFault x y = 0 ∧ oFault a b = 0) := hM
  clear hM
  go_wp2_with fail
  refine (HI.out _).mono ?_
  rintro e w2 ⟨vg, rfl, i2, b2⟩
  obtain ⟨og, cg, rfl⟩ := i2.form
  have O : Hid (Blok w2 w1.heap.size 25 #[.int .i64 a, .int .i64 b]) := (Blok.new w1 _ _).later b2 (by simp)
  have G : Hid (Ints w2 w.heap.size (.slice og L.length cg) L) := i2.mono (by have := B.out.size; simp; omega)
  replace B : Hid (Below w.heap.size w w2) := (B.out.alloc B.out.size _).trans (b2.mono (by have := B.out.size; simp; omega))
  have hz := O.out.lt
  clear i2 b2
  by_cases hc : c = 0
  · obtain ⟨N, hN, rfl, rfl, rfl, hf, hf0⟩ := HM.out hc
    obtain ⟨ha, hab, hb⟩ := oFault_zero hf0
    obtain ⟨hx1, hxy, hy⟩ := oFault_zero hf
    subst hc
    have HF : Hid (oFault (a + N) y = 0) := hf
    have HFY : Hid (oFault y y = 0) := oFault_ok (by omega) (by omega)
    have hup : (up a N).length = N := up_length a N
    rw [hup] at G
    have hzw : w1.heap.size < w2.heap.size := hz
    clear HM hf hf0 hL HS HI
    have q0 : (w2.alloc (.cells #[.int .i64 0, .slice og N cg, .int .i64 (a + N), .int .i64 y] 30)).cell? ⟨w1.heap.size, 0, none⟩ = some (.int .i64 a) := (O.out.alloc _).cell rfl
    rw [hup]
    go_wp2_with fail
    go_loop [6, 7] (fun last i => ∃ k : Nat, k ≤ N ∧ i = .int .i64 k ∧ last = .int .i64 (a + k - 1)) (fun _ i => N - (intOf i).toNat)
    case atStart => exact ⟨0, Nat.zero_le _, rfl, by go_num⟩
    case round =>
      obtain ⟨k, hk, rfl, rfl⟩ := hrel
      by_cases hlt : k < N
      · have G1 : Ints (w2.alloc (.cells #[.int .i64 0, .slice og N cg, .int .i64 (a + N), .int .i64 y] 30)) w.heap.size (.slice og (up a N).length cg) (up a N) := by rw [hup]; exact G.out.alloc _
        obtain ⟨g, hog, _, hcell, _⟩ := G1.at (k := k) (by rw [hup]; exact hlt)
        subst hog
        rw [up_get] at hcell
        clear G1
        have dk : decide (a + k ≤ a + k - 1) = false := decide_eq_false (by omega)
        go_wp2
        go_round
        case rel => exact ⟨k + 1, by omega, by go_num, by go_num⟩
        case measure => simp [intOf]; omega
      · obtain rfl : k = N := by omega
        clear hlt hk
        go_wp2_with fail
        refine (implCrash_ok (a + k) y _ HF.out).mono ?_
        rintro e w3 ⟨rfl, b3⟩
        have T3 : Hid (Blok w3 w2.heap.size 30 #[.int .i64 0, .slice og k cg, .int .i64 (a + k), .int .i64 y]) := (Blok.new w2 _ _).later b3 (by simp)
        have B3 : Hid (Below w.heap.size w w3) := (B.out.alloc B.out.size _).trans (b3.mono (by have := B.out.size; simp; omega))
        clear b3 q0
        go_wp2_with fail
        refine (implGrantTs_ok y y _ HFY.out).mono ?_
        rintro e w4 ⟨rfl, b4⟩
        have C4 : Hid (Blok w4 w3.heap.size 33 #[.int .i64 0, .int .i64 0, .int .i64 y, .int .i64 y]) := (Blok.new w3 _ _).later b4 (by simp)
        have T4 : Hid (Blok w4 w2.heap.size 30 #[.int .i64 0, .slice og k cg, .int .i64 (a + k), .int .i64 y]) := (T3.out.alloc _).later b4 (by have := T3.out.lt; simp; omega)
        have B4 : Hid (Below w.heap.size w w4) := (B3.out.alloc B3.out.size _).trans (b4.mono (by have := B3.out.size; simp; omega))
        clear b4 T3 B3
        have s0 : w4.cell? ⟨w2.heap.size, 0, none⟩ = some (.int .i64 0) := T4.out.cell rfl
        have s1 : w4.cell? ⟨w2.heap.size, 1, none⟩ = some (.slice og k cg) := T4.out.cell rfl
        have s2 : w4.cell? ⟨w2.heap.size, 2, none⟩ = some (.int .i64 (a + k)) := T4.out.cell rfl
        have s3 : w4.cell? ⟨w2.heap.size, 3, none⟩ = some (.int .i64 y) := T4.out.cell rfl
        have u0 : w4.cell? ⟨w3.heap.size, 0, none⟩ = some (.int .i64 0) := C4.out.cell rfl
        have u2 : w4.cell? ⟨w3.heap.size, 2, none⟩ = some (.int .i64 y) := C4.out.cell rfl
        have u3 : w4.cell? ⟨w3.heap.size, 3, none⟩ = some (.int .i64 y) := C4.out.cell rfl
        have z4 : w2.heap.size < w4.heap.size := T4.out.lt
        have z5 : w3.heap.size < w4.heap.size := C4.out.lt
        by_cases hbigy : 99990 < y
        · have e0 : grantC y y = 2 := by unfold grantC; rw [if_pos ⟨rfl, hbigy⟩]
          have e1 : grantT y y = 0 := by unfold grantT; rw [if_pos ⟨rfl, hbigy⟩]
          have e2 : grantN y y = 0 := by unfold grantN; rw [if_pos ⟨rfl, hbigy⟩]
          have e3 : grantB y y = 0 := by unfold grantB; rw [if_pos rfl, if_pos hbigy]
          rw [e0, e1, e2, e3]
          clear e0 e1 e2 e3
          go_wp2_with fail
          refine (implOracleFault_any _ _ _).mono ?_
          rintro e w5 ⟨rfl, rfl⟩
          rw [HF.out]
          go_wp2_with fail
          refine (implOracleFault_any _ _ _).mono ?_
          rintro e w5 ⟨rfl, rfl⟩
          rw [HFY.out]
          have s2' : (((w4.alloc (.cells #[.int .i64 2, .int .i64 0, .int .i64 0, .int .i64 0] 33)).alloc (.cells #[.int .i64 (a + k), .int .i64 y] 25)).alloc (.cells #[.int .i64 y, .int .i64 y] 25)).cell? ⟨w2.heap.size, 2, none⟩ = some (.int .i64 (a + k)) := (((T4.out.alloc _).alloc _).alloc _).cell rfl
          have dn : (a + (k : Int) == a + (k : Int) - 1 + 1) = true := by rw [beq_iff_eq]; omega
          go_wp2
          go_ret
          exact ⟨rfl, by repeat (first | exact B4.out | refine Below.alloc ?_ (by have := B4.out.size; first | omega | (simp <;> omega)) _)⟩
        · have e0 : grantC y y = 0 := by unfold grantC; rw [if_neg (by omega)]
          have e1 : grantT y y = y := by unfold grantT; rw [if_neg (by omega)]
          have e2 : grantN y y = y + 1 := by unfold grantN; rw [if_neg (by omega)]
          have e3 : grantB y y = y + 10 := by unfold grantB; rw [if_pos rfl, if_neg hbigy]
          rw [e0, e1, e2, e3]
          clear e0 e1 e2 e3
          have dl : decide (a + k - 1 < y) = true := decide_eq_true (by omega)
          go_wp2_with fail
          refine (implOracleFault_any _ _ _).mono ?_
          rintro e w5 ⟨rfl, rfl⟩
          rw [HF.out]
          go_wp2_with fail
          refine (implOracleFault_any _ _ _).mono ?_
          rintro e w5 ⟨rfl, rfl⟩
          rw [HFY.out]
          have s2' : (((w4.alloc (.cells #[.int .i64 0, .int .i64 y, .int .i64 (y + 1), .int .i64 (y + 10)] 33)).alloc (.cells #[.int .i64 (a + k), .int .i64 y] 25)).alloc (.cells #[.int .i64 y, .int .i64 y] 25)).cell? ⟨w2.heap.size, 2, none⟩ = some (.int .i64 (a + k)) := (((T4.out.alloc _).alloc _).alloc _).cell rfl
          have dn : (a + (k : Int) == a + (k : Int) - 1 + 1) = true := by rw [beq_iff_eq]; omega
          go_wp2
          go_ret
          exact ⟨rfl, by repeat (first | exact B4.out | refine Below.alloc ?_ (by have := B4.out.size; first | omega | (simp <;> omega)) _)⟩
  · have d1 : (c != 0) = true := by rw [bne_iff_ne]; exact hc
    have ft := field_times0
    clear hc HM
    go_upto_region 6 with fail
    refine wp_region_held_drew (S := Ora w w1.heap.size w2.heap.size a b c (.slice og L.length cg) x y) (by kernel_rfl) (Ora.mk' (O.out.alloc _) (Blok.new _ _ _) (B.out.alloc B.out.size _).drew) (fun hS => ?_)
    refine wpAnyH_take (i := 0) (v := ?_) rfl (by kernel_rfl) (by kernel_rfl) (by kernel_rfl) (fun _ _ _ h => h) (Or.inl ⟨by kernel_rfl, ?_⟩) hS ?_
    rotate_left
    · intro wx hx
      obtain ⟨⟨hx0, hx1, hx2⟩, _⟩ := hx
      go_simp
      try with_reducible rfl
    refine wpAnyH_take (i := 1) (v := ?_) rfl (by kernel_rfl) (by kernel_rfl) (by kernel_rfl) (fun _ _ _ h => h) (Or.inl ⟨by kernel_rfl, ?_⟩) hS ?_
    rotate_left
    · intro wx hx
      obtain ⟨⟨hx0, hx1, hx2⟩, _⟩ := hx
      go_simp
      try with_reducible rfl
    refine wpAnyH_take (i := 4) (v := ?_) rfl (by kernel_rfl) (by kernel_rfl) (by kernel_rfl) (fun _ _ _ h => h) (Or.inl ⟨by kernel_rfl, ?_⟩) hS ?_
    rotate_left
    · intro wx hx
      obtain ⟨⟨hx0, hx1, hx2⟩, _⟩ := hx
      go_simp
      try with_reducible rfl
    refine wpAnyH_take (i := 5) (v := ?_) rfl (by kernel_rfl) (by kernel_rfl) (by kernel_rfl) (fun _ _ _ h => h) (Or.inl ⟨by kernel_rfl, ?_⟩) hS ?_
    rotate_left
    · intro wx hx
      obtain ⟨⟨hx0, hx1, hx2⟩, _⟩ := hx
      go_simp
      try with_reducible rfl
    refine wpAnyH_ready (rs := [2]) (by kernel_rfl) (by simp) ?_
    refine AllReadyH.cons rfl (fun K hK => ?_) AllReadyH.nil
    go_simp
    go_wp2_with fail
    refine (HS.out _).mono ?_
    rintro e w3 ⟨v3, rfl, i3, b3⟩
    obtain ⟨o3, c3, rfl⟩ := i3.form
    have S3 : Ora w w1.heap.size w2.heap.size a b c (.slice og L.length cg) x y w3 := Ora.mk' (hS.2.1.later b3 hS.2.1.lt) (hS.2.2.1.later b3 hS.2.2.1.lt) (hS.2.2.2.trans (b3.mono hS.2.2.2.size))
    clear i3 b3 hS
    go_wp2_with fail
    refine hK.out _ _ S3 (fun hS => ?_)
    clear hK K S3
    refine wpAnyH_take (i := 3) (v := ?_) rfl (by kernel_rfl) (by kernel_rfl) (by kernel_rfl) (fun _ _ _ h => h) (Or.inl ⟨by kernel_rfl, ?_⟩) hS ?_
    rotate_left
    · intro wx hx
      obtain ⟨⟨hx0, hx1, hx2⟩, _⟩ := hx
      go_simp
      try with_reducible rfl
    refine wpAnyH_take (i := 6) (v := ?_) rfl (by kernel_rfl) (by kernel_rfl) (by kernel_rfl) (fun _ _ _ h => h) (Or.inl ⟨by kernel_rfl, ?_⟩) hS ?_
    rotate_left
    · intro wx hx
      obtain ⟨⟨hx0, hx1, hx2⟩, _⟩ := hx
      go_simp
      try with_reducible rfl
    refine wpAnyH_take (i := 7) (v := ?_) rfl (by kernel_rfl) (by kernel_rfl) (by kernel_rfl) (fun _ _ _ h => h) (Or.inl ⟨by kernel_rfl, ?_⟩) hS ?_
    rotate_left
    · intro wx hx
      obtain ⟨⟨hx0, hx1, hx2⟩, _⟩ := hx
      go_simp
      try with_reducible rfl
    refine wpAnyH_done (by kernel_rfl) ?_ _
    go_simp
    go_wp2
    go_ret
    exact ⟨rfl, hS.2.2.2⟩
end Go.Proofs.Ytbljhkhpfhphgaa
