/-
  Own text. What is read of a key at a time: the program's get, the model's l3Value.
-/
import Derived.Test.YtjhloobjbbdmcaiGreatDoorAsB
import Derived.Test.YtjhloobjbbdmcaiGreatDoorStorL
import Derived.Test.YtjhloobjbbdmcaiGreatDoorStorG
namespace Go.Proofs.YtjhloobjbbdmcaiGreatDoor
open Go.RowKit

/-- 'm[k]'. -/
theorem PM.look0 {w : World} {b n : Nat} {m : Int → Int → Option Int} (h : PM w b n m) {x y : Int} (hx : Wf x) (hy : Wf y) :
    (Instr.lookup 116 (.map (some b)) (.agg #[.int .i64 x, .int .i64 y]) false).run Tryz.prog w = .ok (.int .i64 ((m x y).getD 0)) w := by
  obtain ⟨D, h, r⟩ := h
  obtain ⟨c, hrun, hat, _⟩ := h.lookup_int placeKeyed Tryz.underlying116 Tryz.underlying2 (zero_i64 w) (keyOf_place hx hy)
  rw [hrun]
  rw [(r x y hx hy).2] at hat
  simp at hat
  rw [hat]
def GetEnv (w : World) (b g N : Nat) (m : Int → Int → Option Int) (L : Nat) (st : Int) (x : World) : Prop := x.cell? ⟨b, 0, none⟩ = some (.map (some g)) ∧ x.cell? ⟨L, 2, none⟩ = some (.int .i64 st) ∧ PM x g N m ∧ Below w.heap.size w x
set_option maxRecDepth 100000 in
set_option maxHeartbeats 4000000 in
theorem get_blocked (B b N : Nat) (m : Int → Int → Option Int) (nl : Nat) (l : Nat → Int) (nw : Nat) (k : Nat → Int) (g : Nat) (u1 u2 : Value) (key ts : Int) (w : World) (h : Cols w B b N m nl l nw k g u1 u2) (hn : nl ≤ 200) (hb : blocks l nl key ts) :
    Calls Tryz.prog 112 #[.pointer (some ⟨b, 0, none⟩), .int .i64 key, .int .i64 ts] w fun e w' => e = .returned (.tuple #[.int .i64 0, .bool false, .iface 125 (.agg #[.int .i64 1])]) ∧ Below w.heap.size w w' := by
  have H : Hid (Cols w B b N m nl l nw k g u1 u2) := h
  have HB : Hid (true = true ↔ blocks l nl key ts) := ⟨fun _ => hb, fun _ => rfl⟩
  have HB2 : Hid (blocks l nl key ts) := hb
  clear h hb HB
  go_enter Tryz.func112, Tryz.ntmps112
  go_wp2_with fail
  refine (blocked_is B b N m nl l nw k g u1 u2 key ts _ H.out hn true ⟨fun _ => HB2.out, fun _ => rfl⟩).mono ?_
  rintro e w1 ⟨rfl, q1⟩
  have Q : Hid (Below w.heap.size w w1) := q1
  clear q1
  go_wp2
  go_ret3
  exact ⟨rfl, Q.out⟩
set_option maxRecDepth 100000 in
set_option maxHeartbeats 4000000 in
theorem get_none (B b N : Nat) (m : Int → Int → Option Int) (nl : Nat) (l : Nat → Int) (nw : Nat) (k : Nat → Int) (g : Nat) (u1 u2 : Value) (key ts : Int) (w : World) (h : Cols w B b N m nl l nw k g u1 u2) (hn : nl ≤ 200) (hn2 : nw ≤ 200) (hk : ∀ i, i < nw → 1 ≤ k (i * 4 + 3)) (hb : ¬ blocks l nl key ts) (hl : ∀ i, lastW k nw key ts i → k (i * 4 + 3) ≠ 1) :
    Calls Tryz.prog 112 #[.pointer (some ⟨b, 0, none⟩), .int .i64 key, .int .i64 ts] w fun e w' => e = .returned (.tuple #[.int .i64 0, .bool false, .nilIface]) ∧ Below w.heap.size w w' := by
  have H : Hid (Cols w B b N m nl l nw k g u1 u2) := h
  have HB : Hid (false = true ↔ blocks l nl key ts) := ⟨fun q => absurd q (by decide), fun q => absurd q hb⟩
  have HK : Hid (∀ i, i < nw → 1 ≤ k (i * 4 + 3)) := hk
  have HL : Hid (∀ i, lastW k nw key ts i → k (i * 4 + 3) ≠ 1) := hl
  clear h hb hk hl
  go_enter Tryz.func112, Tryz.ntmps112
  go_wp2_with fail
  refine (blocked_is B b N m nl l nw k g u1 u2 key ts _ H.out hn false HB.out).mono ?_
  rintro e w1 ⟨rfl, q1⟩
  have Q : Hid (Below w.heap.size w w1) := q1
  have H1 : Hid (Cols w1 B b N m nl l nw k g u1 u2) := H.out.later q1
  clear q1 H
  go_wp2_with fail
  refine (lastWrite_any B b N m nl l nw k g u1 u2 key ts _ H1.out hn2 HK.out).mono ?_
  rintro e w2 ⟨v, rfl, hT, q2⟩
  rcases hT with ⟨i, hi, rfl⟩ | ⟨_, rfl⟩
  · have h3 := HL.out i hi
    obtain ⟨n0, N0⟩ : ∃ x, k (i * 4) = x := ⟨_, rfl⟩
    obtain ⟨n1, N1⟩ : ∃ x, k (i * 4 + 1) = x := ⟨_, rfl⟩
    obtain ⟨n2, N2⟩ : ∃ x, k (i * 4 + 2) = x := ⟨_, rfl⟩
    obtain ⟨n3, N3⟩ : ∃ x, k (i * 4 + 3) = x := ⟨_, rfl⟩
    rw [N0, N1, N2, N3]
    rw [N3] at h3
    have d3 : (n3 == 1) = false := beq_eq_false_iff_ne.2 h3
    have Q2 : Hid (Below w.heap.size w (w2.alloc (.cells #[.int .i64 n0, .int .i64 n1, .int .i64 n2, .int .i64 n3] 109))) := (Q.out.trans (q2.mono Q.out.size)).alloc (by have := Q.out.size; have := q2.size; omega) _
    clear q2 N0 N1 N2 N3 h3 Q
    go_wp2
    go_ret3
    exact ⟨rfl, Q2.out⟩
  · have Q2 : Hid (Below w.heap.size w (w2.alloc (.cells #[.int .i64 0, .int .i64 0, .int .i64 0, .int .i64 0] 109))) := (Q.out.trans (q2.mono Q.out.size)).alloc (by have := Q.out.size; have := q2.size; omega) _
    clear q2 Q
    go_wp2
    go_ret3
    exact ⟨rfl, Q2.out⟩
set_option maxRecDepth 100000 in
set_option maxHeartbeats 4000000 in
theorem get_some (B b N : Nat) (m : Int → Int → Option Int) (nl : Nat) (l : Nat → Int) (nw : Nat) (k : Nat → Int) (g : Nat) (u1 u2 : Value) (key ts : Int) (i : Nat) (v : Int) (w : World) (h : Cols w B b N m nl l nw k g u1 u2) (hn : nl ≤ 200) (hn2 : nw ≤ 200) (hk : ∀ i, i < nw → 1 ≤ k (i * 4 + 3)) (hb : ¬ blocks l nl key ts) (hl : lastW k nw key ts i) (h1 : k (i * 4 + 3) = 1) (hw0 : Wf key) (hw1 : Wf (k (i * 4 + 2))) (hm : m key (k (i * 4 + 2)) = some v) :
    Calls Tryz.prog 112 #[.pointer (some ⟨b, 0, none⟩), .int .i64 key, .int .i64 ts] w fun e w' => e = .returned (.tuple #[.int .i64 v, .bool true, .nilIface]) ∧ Below w.heap.size w w' := by
  have H : Hid (Cols w B b N m nl l nw k g u1 u2) := h
  have HB : Hid (false = true ↔ blocks l nl key ts) := ⟨fun q => absurd q (by decide), fun q => absurd q hb⟩
  have HK : Hid (∀ i, i < nw → 1 ≤ k (i * 4 + 3)) := hk
  have HL : Hid (lastW k nw key ts i) := hl
  obtain ⟨n0, N0⟩ : ∃ x, k (i * 4) = x := ⟨_, rfl⟩
  obtain ⟨n1, N1⟩ : ∃ x, k (i * 4 + 1) = x := ⟨_, rfl⟩
  obtain ⟨n2, N2⟩ : ∃ x, k (i * 4 + 2) = x := ⟨_, rfl⟩
  obtain ⟨n3, N3⟩ : ∃ x, k (i * 4 + 3) = x := ⟨_, rfl⟩
  rw [N2] at hm hw1
  rw [N3] at h1
  subst h1
  have NN : Hid (k (i * 4) = n0 ∧ k (i * 4 + 1) = n1 ∧ k (i * 4 + 2) = n2 ∧ k (i * 4 + 3) = 1) := ⟨N0, N1, N2, N3⟩
  have HM : Hid (m key n2 = some v) := hm
  clear h hb hk hl N0 N1 N2 N3 hm
  go_enter Tryz.func112, Tryz.ntmps112
  go_wp2_with fail
  refine (blocked_is B b N m nl l nw k g u1 u2 key ts _ H.out hn false HB.out).mono ?_
  rintro e w1 ⟨rfl, q1⟩
  have Q : Hid (Below w.heap.size w w1) := q1
  have H1 : Hid (Cols w1 B b N m nl l nw k g u1 u2) := H.out.later q1
  clear q1 H
  go_wp2_with fail
  refine (lastWrite_any B b N m nl l nw k g u1 u2 key ts _ H1.out hn2 HK.out).mono ?_
  rintro e w2 ⟨v', rfl, hT, q2⟩
  obtain rfl : v' = .tuple #[.agg #[.int .i64 n0, .int .i64 n1, .int .i64 n2, .int .i64 1], .bool true] := by
    rcases hT with ⟨j, hj, e⟩ | ⟨h, _⟩
    · obtain rfl := hj.one HL.out
      rw [e, NN.out.1, NN.out.2.1, NN.out.2.2.1, NN.out.2.2.2]
    · exact absurd HL.out (h i)
  have h0 : GetEnv w b g N m w2.heap.size n2 (w2.alloc (.cells #[.int .i64 n0, .int .i64 n1, .int .i64 n2, .int .i64 1] 109)).drew := ⟨((H1.out.later q2).2.2.1.alloc _).1.1, World.cell?_alloc_mark w2 _ _ _ 2, ((H1.out.later q2).2.2.2.1.alloc _), ((Q.out.trans (q2.mono Q.out.size)).alloc (by have := Q.out.size; have := q2.size; omega) _).drew⟩
  clear q2 hT Q H1
  go_wp2_with fail
  refine wp_region_held_drew (S := GetEnv w b g N m w2.heap.size n2) (by kernel_rfl) h0 (fun hS => ?_)
  clear h0
  refine wpAnyH_take (i := 0) (v := ?_) rfl (by kernel_rfl) (by kernel_rfl) (by kernel_rfl) (fun _ _ _ h => h) (Or.inl ⟨by kernel_rfl, ?_⟩) hS ?_
  rotate_left
  · intro wx hx
    obtain ⟨hx0, hx1, hx2, _⟩ := hx
    have hxl := hx2.look0 hw0 hw1
    clear hx2
    go_simp
    try with_reducible rfl
  refine wpAnyH_take (i := 1) (v := ?_) rfl (by kernel_rfl) (by kernel_rfl) (by kernel_rfl) (fun _ _ _ h => h) (Or.inl ⟨by kernel_rfl, ?_⟩) hS ?_
  rotate_left
  · intro wx hx
    obtain ⟨hx0, hx1, hx2, _⟩ := hx
    have hxl := hx2.look0 hw0 hw1
    clear hx2
    go_simp
    try with_reducible rfl
  refine wpAnyH_take (i := 2) (v := ?_) rfl (by kernel_rfl) (by kernel_rfl) (by kernel_rfl) (fun _ _ _ h => h) (Or.inl ⟨by kernel_rfl, ?_⟩) hS ?_
  rotate_left
  · intro wx hx
    obtain ⟨hx0, hx1, hx2, _⟩ := hx
    have hxl := hx2.look0 hw0 hw1
    clear hx2
    go_simp
    try with_reducible rfl
  refine wpAnyH_take (i := 3) (v := ?_) rfl (by kernel_rfl) (by kernel_rfl) (by kernel_rfl) (fun _ _ _ h => h) (Or.inl ⟨by kernel_rfl, ?_⟩) hS ?_
  rotate_left
  · intro wx hx
    obtain ⟨hx0, hx1, hx2, _⟩ := hx
    have hxl := hx2.look0 hw0 hw1
    clear hx2
    go_simp
    try with_reducible rfl
  refine wpAnyH_take (i := 4) (v := ?_) rfl (by kernel_rfl) (by kernel_rfl) (by kernel_rfl) (fun _ _ _ h => h) (Or.inl ⟨by kernel_rfl, ?_⟩) hS ?_
  rotate_left
  · intro wx hx
    obtain ⟨hx0, hx1, hx2, _⟩ := hx
    have hxl := hx2.look0 hw0 hw1
    clear hx2
    go_simp
    try with_reducible rfl
  refine wpAnyH_take (i := 5) (v := ?_) rfl (by kernel_rfl) (by kernel_rfl) (by kernel_rfl) (fun _ _ _ h => h) (Or.inl ⟨by kernel_rfl, ?_⟩) hS ?_
  rotate_left
  · intro wx hx
    obtain ⟨hx0, hx1, hx2, _⟩ := hx
    have hxl := hx2.look0 hw0 hw1
    clear hx2
    go_simp
    try with_reducible rfl
  refine wpAnyH_take (i := 6) (v := ?_) rfl (by kernel_rfl) (by kernel_rfl) (by kernel_rfl) (fun _ _ _ h => h) (Or.inl ⟨by kernel_rfl, ?_⟩) hS ?_
  rotate_left
  · intro wx hx
    obtain ⟨hx0, hx1, hx2, _⟩ := hx
    have hxl := hx2.look0 hw0 hw1
    clear hx2
    go_simp
    try with_reducible rfl
  refine wpAnyH_take (i := 7) (v := ?_) rfl (by kernel_rfl) (by kernel_rfl) (by kernel_rfl) (fun _ _ _ h => h) (Or.inl ⟨by kernel_rfl, ?_⟩) hS ?_
  rotate_left
  · intro wx hx
    obtain ⟨hx0, hx1, hx2, _⟩ := hx
    have hxl := hx2.look0 hw0 hw1
    clear hx2
    go_simp
    try with_reducible rfl
  refine wpAnyH_take (i := 8) (v := ?_) rfl (by kernel_rfl) (by kernel_rfl) (by kernel_rfl) (fun _ _ _ h => h) (Or.inl ⟨by kernel_rfl, ?_⟩) hS ?_
  rotate_left
  · intro wx hx
    obtain ⟨hx0, hx1, hx2, _⟩ := hx
    have hxl := hx2.look0 hw0 hw1
    clear hx2
    go_simp
    try with_reducible rfl
  refine wpAnyH_take (i := 9) (v := ?_) rfl (by kernel_rfl) (by kernel_rfl) (by kernel_rfl) (fun _ _ _ h => h) (Or.inl ⟨by kernel_rfl, ?_⟩) hS ?_
  rotate_left
  · intro wx hx
    obtain ⟨hx0, hx1, hx2, _⟩ := hx
    have hxl := hx2.look0 hw0 hw1
    clear hx2
    go_simp
    try with_reducible rfl
  refine wpAnyH_take (i := 10) (v := ?_) rfl (by kernel_rfl) (by kernel_rfl) (by kernel_rfl) (fun _ _ _ h => h) (Or.inl ⟨by kernel_rfl, ?_⟩) hS ?_
  rotate_left
  · intro wx hx
    obtain ⟨hx0, hx1, hx2, _⟩ := hx
    have hxl := hx2.look0 hw0 hw1
    clear hx2
    go_simp
    try with_reducible rfl
  refine wpAnyH_take (i := 11) (v := ?_) rfl (by kernel_rfl) (by kernel_rfl) (by kernel_rfl) (fun _ _ _ h => h) (Or.inl ⟨by kernel_rfl, ?_⟩) hS ?_
  rotate_left
  · intro wx hx
    obtain ⟨hx0, hx1, hx2, _⟩ := hx
    have hxl := hx2.look0 hw0 hw1
    clear hx2
    go_simp
    try with_reducible rfl
  refine wpAnyH_done (by kernel_rfl) ?_ _
  rw [HM.out]
  go_simp
  go_wp2
  go_ret3
  exact ⟨rfl, hS.2.2.2⟩
end Go.Proofs.YtjhloobjbbdmcaiGreatDoor
