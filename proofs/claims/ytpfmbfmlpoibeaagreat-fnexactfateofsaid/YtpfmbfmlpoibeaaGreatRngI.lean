/-
  Own text, merged of RngB, RngH, RngE, RngI.
-/
import Derived.Test.YtpfmbfmlpoibeaaGreatRngA
import Derived.Test.YtpfmbfmlpoibeaaGreatStorQ
import Derived.Test.YtpfmbfmlpoibeaaGreatRngD
namespace Go.Proofs.YtpfmbfmlpoibeaaGreat
section
open Go.RowKit
-- Own text. What the laws' helpers over a code and a row of ranges do: eq, mark, held.
end

section
open Go.RowKit
-- Own text. The walks of the laws of chapter 6 whose answer is a code and a row of ranges, over what the model and the program answer.
/-- What the model answered (block W) and what the program answered (block G); nothing old has turned. -/
def EnvR (w : World) (W : Nat) (c : Int) (vw : Value) (G : Nat) (vg : Value) (x : World) : Prop := Below w.heap.size w x ∧ Blk2 x W (.int .i64 c) vw ∧ Blk2 x G (.int .i64 c) vg
theorem EnvR.later {w x x' : World} {W G : Nat} {c : Int} {vw vg : Value} (h : EnvR w W c vw G vg x) (hb : Below x.heap.size x x') : EnvR w W c vw G vg x' := ⟨h.1.trans (hb.mono h.1.size), h.2.1.later hb, h.2.2.later hb⟩
theorem Blk2.inside {x x' : World} {b B E : Nat} {a0 a1 : Value} (h : Blk2 x b a0 a1) (hw : Within B E x x') (ho : b < B ∨ E ≤ b) : Blk2 x' b a0 a1 := h.kept (hw.block b h.lt ho)
theorem EnvR.within {w x x' : World} {W G B E : Nat} {c : Int} {vw vg : Value} (h : EnvR w W c vw G vg x) (hw : Within B E x x') (hL : w.heap.size ≤ B) (hW : W < B ∨ E ≤ W) (hG : G < B ∨ E ≤ G) : EnvR w W c vw G vg x' :=
  ⟨hw.below h.1 hL, h.2.1.inside hw hW, h.2.2.inside hw hG⟩
end

section
open Go.RowKit
-- Own text. Chapter 6: the next epoch, RouteOf, IsFresh and WholeRange: the program's and the model's answer the same.
/-- A code and a value. -/
def ResIv (w : World) (c v : Int) (e : Ending) (w' : World) : Prop := e = .returned (.agg #[.int .i64 c, .int .i64 v]) ∧ Below w.heap.size w w'
theorem l1Max_is (a b : Int) (w : World) :
    Calls Tryz.prog 201 #[.int .i64 a, .int .i64 b] w fun e w' => e = .returned (.int .i64 (if b < a then a else b)) ∧ w' = w := by
  by_cases h : b < a
  · rw [if_pos h]
    have d : decide (a > b) = true := decide_eq_true h
    go_enter Tryz.func201, Tryz.ntmps201
    go_wp2
    go_ret
    exact ⟨rfl, rfl⟩
  · rw [if_neg h]
    have d : decide (a > b) = false := decide_eq_false h
    go_enter Tryz.func201, Tryz.ntmps201
    go_wp2
    go_ret
    exact ⟨rfl, rfl⟩
set_option maxRecDepth 100000 in
set_option maxHeartbeats 1000000 in
theorem l6Next_is (v : Value) (B n : Nat) (F : Nat → Int) (w : World) (h : Row w B 3 n F v) (hn : n ≤ 1048576) (he : ∀ i, i < n → 1 ≤ F (i * 3 + 2) ∧ F (i * 3 + 2) ≤ 9999) :
    Calls Tryz.prog 188 #[v] w fun e w' => e = .returned (.int .i64 (topE F n + 1)) ∧ w' = w := by
  obtain ⟨ao, cp, rfl⟩ := h.form
  have H : Hid (Row w B 3 n F (.slice ao n cp)) := h
  have HE : Hid (∀ i, i < n → 1 ≤ F (i * 3 + 2) ∧ F (i * 3 + 2) ≤ 9999) := he
  clear h he
  go_enter Tryz.func188, Tryz.ntmps188
  go_wp2
  go_loop [3, 4] (fun a i => ∃ (k : Nat) (z : Int), k ≤ n ∧ i = .int .i64 k ∧ a = .int .i64 z ∧ Hid (topE F k = z)) (fun _ i => n - (intOf i).toNat)
  case atStart => exact ⟨0, 0, Nat.zero_le _, rfl, rfl, rfl⟩
  case round =>
    obtain ⟨k, z, hk, rfl, rfl, HZ⟩ := hrel
    by_cases hlt : k < n
    · obtain ⟨g, o, rfl, _, hg, x0, x1, x2⟩ := H.out.at3 hlt
      have E : Hid (topE F (k + 1) = if F (k * 3 + 2) < z then z else F (k * 3 + 2)) := by unfold Hid; rw [topE, HZ.out]
      clear HZ
      obtain ⟨n2, N2⟩ : ∃ x, F (k * 3 + 2) = x := ⟨_, rfl⟩
      have E : Hid (topE F (k + 1) = if n2 < z then z else n2) := by unfold Hid; rw [E.out, N2]
      rw [N2] at x2
      clear N2
      go_wp2_with fail
      refine (l1Max_is z n2 _).mono ?_
      rintro e w1 ⟨rfl, rfl⟩
      go_wp2
      go_round
      case rel => exact ⟨k + 1, _, by omega, by go_num, rfl, E⟩
      case measure => simp [intOf]; omega
    · obtain rfl : k = n := by omega
      have hb := topE_bound k HE.out
      have hz := HZ.out
      subst hz
      clear HZ
      go_wp2
      go_ret
      exact ⟨by congr 2, rfl⟩
/-- What RouteOf answers: a code and a place. -/
def RouteAns (n : Nat) (F : Nat → Int) (key c v : Int) : Prop :=
  (rangesF n F ≠ 0 ∧ c = rangesF n F ∧ v = 0) ∨ (rangesF n F = 0 ∧ (key < 0 ∨ 199 < key) ∧ c = 3 ∧ v = 0) ∨ (rangesF n F = 0 ∧ ¬ (key < 0 ∨ 199 < key) ∧ c = 0 ∧ ∃ j : Nat, AtR n F key j ∧ v = j)
theorem RouteAns.get (n : Nat) (F : Nat → Int) (key : Int) : ∃ c v, RouteAns n F key c v := by
  by_cases h0 : rangesF n F = 0
  · by_cases h1 : key < 0 ∨ 199 < key
    · exact ⟨3, 0, Or.inr (Or.inl ⟨h0, h1, rfl, rfl⟩)⟩
    · obtain ⟨j, hj⟩ := (good_of h0).at (key := key) (by omega)
      exact ⟨0, j, Or.inr (Or.inr ⟨h0, h1, rfl, j, hj, rfl⟩)⟩
  · exact ⟨_, 0, Or.inl ⟨h0, rfl, rfl⟩⟩
end

section
open Go.RowKit
-- Own text. WholeRange: the program's and the model's answer the same code and the same row; the law's walk.
theorem ResRow.none {w w' : World} {c : Int} {e : Ending} {F : Nat → Int} (he : e = .returned (.agg #[.int .i64 c, .slice none 0 0])) (hb : Below w.heap.size w w') : ResRow 3 w c 0 F e w' :=
  ⟨Option.none, 0, he, ⟨_, _, rfl, fun q => absurd q (Nat.lt_irrefl 0)⟩, Free.of0 _ _, hb⟩
theorem Blk3.row {x : World} {b B : Nat} {F : Nat → Int} (h : Blk3 x b (.int .i64 (F 0)) (.int .i64 (F 1)) (.int .i64 (F 2))) (hB : B ≤ b) (cp : Nat) : Row x B 3 1 F (.slice (some ⟨b, 0, none⟩) 1 cp) ∧ Free x (1 * 3) (.slice (some ⟨b, 0, none⟩) 1 cp) := by
  have hl := h.lt
  obtain ⟨⟨h0, h1, h2⟩, f0, f1, f2⟩ := h
  refine ⟨⟨_, _, rfl, fun _ => ⟨b, 0, rfl, hB, hl, fun p hp => ?_⟩⟩, ?_⟩
  · match p, hp with
    | 0, _ => exact h0
    | 1, _ => exact h1
    | 2, _ => exact h2
  · intro g o n c hv p hp
    simp only [Value.slice.injEq, Option.some.injEq, Addr.mk.injEq] at hv
    obtain ⟨⟨rfl, rfl, _⟩, _, _⟩ := hv
    match p, hp with
    | 0, _ => exact f0
    | 1, _ => exact f1
    | 2, _ => exact f2
def wholeF (e : Int) (p : Nat) : Int := if p = 0 then 0 else if p = 1 then 200 else e
set_option maxRecDepth 100000 in
set_option maxHeartbeats 1000000 in
theorem specWhole_ok (ep : Int) (h : 1 ≤ ep ∧ ep ≤ 9999) (w : World) : Calls Tryz.prog 169 #[.int .i64 ep] w (ResRow 3 w 0 1 (wholeF ep)) := by
  have L0 : Hid (decide (1 ≤ ep ∧ ep ≤ 9999) = true) := decide_eq_true h
  go_enter Tryz.func169, Tryz.ntmps169
  go_wp2_with fail
  refine (l6Epoch_is _ _ L0.out _).mono ?_
  rintro e w1 ⟨rfl, rfl⟩
  go_wp2
  refine bodyPost_ret (v := .agg #[.int .i64 0, .slice (some ⟨w.heap.size + 1, 0, none⟩) 1 1]) (by simp [results, Tryz.results169, go_sem]) rfl ⟨_, _, rfl, ?_⟩
  have K := Blk3.row (F := wholeF ep) (B := w.heap.size) (Blk3.new (w.alloc (.cells #[.int .i64 0, .slice (some ⟨w.heap.size + 1, 0, none⟩) 1 1] 225)) (.int .i64 0) (.int .i64 200) (.int .i64 ep) 89) (by simp) 1
  rw [World.size_alloc] at K
  exact ⟨K.1, K.2, (below_alloc _ _).alloc (by simp) _⟩
set_option maxHeartbeats 1000000 in
theorem specWhole_bad (ep : Int) (h : ¬ (1 ≤ ep ∧ ep ≤ 9999)) (w : World) : Calls Tryz.prog 169 #[.int .i64 ep] w (ResRow 3 w 3 0 (wholeF ep)) := by
  have L0 : Hid (decide (1 ≤ ep ∧ ep ≤ 9999) = false) := decide_eq_false h
  go_enter Tryz.func169, Tryz.ntmps169
  go_wp2_with fail
  refine (l6Epoch_is _ _ L0.out _).mono ?_
  rintro e w1 ⟨rfl, rfl⟩
  go_wp2
  exact bodyPost_ret (v := .agg #[.int .i64 3, .slice none 0 0]) (by simp [results, Tryz.results169, go_sem]) rfl (ResRow.none rfl ((below_alloc _ _)))
end
end Go.Proofs.YtpfmbfmlpoibeaaGreat
