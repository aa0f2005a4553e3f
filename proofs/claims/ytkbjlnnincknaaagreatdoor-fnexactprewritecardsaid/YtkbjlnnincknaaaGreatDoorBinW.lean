/-
  Own text, merged of BinW, BinL.
-/
import Derived.Test.YtkbjlnnincknaaaGreatDoorAddC
import Derived.Test.YtkbjlnnincknaaaGreatDoorColsM
import Derived.Deep.DeepCutAuto
namespace Go.Proofs.YtkbjlnnincknaaaGreatDoor
section
open Go.RowKit
-- Own text. slices.BinarySearchFunc over a row of writes that rises: the place of a write, and whether one stands there.
theorem AW.later {w X X' : World} {B n : Nat} {F : Nat → Int} {ao : Option Addr} {cp : Nat} {x0 x1 x2 x3 : Int} (h : AW w B n F ao cp x0 x1 x2 x3 X) (h0 : Row w B 4 n F (.slice ao n cp)) (hb : Below X.heap.size X X') : AW w B n F ao cp x0 x1 x2 x3 X' :=
  h.grown h0 (row := none) ⟨hb.os, hb.tape, hb.output, hb.size, fun k hk _ => hb.block k hk⟩ (fun r e => by cases e)
theorem or_neg (a b x y : Int) : orOf (cmpOf a x) (cmpOf b y) < 0 ↔ a < x ∨ a = x ∧ b < y := by
  unfold orOf cmpOf
  constructor
  · intro h
    by_cases h1 : a < x
    · exact Or.inl h1
    · by_cases h2 : x < a
      · simp [h1, h2] at h
      · refine Or.inr ⟨by omega, ?_⟩
        simp [h1, h2] at h
        by_cases h3 : b < y
        · exact h3
        · simp [h3] at h
          split at h <;> omega
  · intro h
    rcases h with h | ⟨rfl, h⟩
    · simp [h]
    · simp [h]
theorem or_zero (a b x y : Int) : orOf (cmpOf a x) (cmpOf b y) = 0 ↔ a = x ∧ b = y := by
  unfold orOf cmpOf
  constructor
  · intro h
    by_cases h1 : a < x
    · simp [h1] at h
    · by_cases h2 : x < a
      · simp [h1, h2] at h
      · refine ⟨by omega, ?_⟩
        simp [h1, h2] at h
        by_cases h3 : b < y
        · simp [h3] at h
        · by_cases h4 : y < b
          · simp [h3, h4] at h
          · omega
  · rintro ⟨rfl, rfl⟩
    simp
/-- What the search answers. -/
def FoundW (w : World) (n : Nat) (F : Nat → Int) (x0 x1 : Int) (e : Ending) (w' : World) : Prop := ∃ (k : Nat) (r : Bool), e = .returned (.tuple #[.int .i64 k, .bool r]) ∧ placeAt (aheadW F x0 x1) n k ∧ (r = true ↔ k < n ∧ F (k * 4) = x0 ∧ F (k * 4 + 1) = x1) ∧ Below w.heap.size w w'
end

section
open Go.RowKit
-- Own text. slices.BinarySearchFunc over a row of locks that rises: the place of a lock, and whether one stands there.
theorem AL.later {w X X' : World} {B n : Nat} {F : Nat → Int} {ao : Option Addr} {cp : Nat} {x0 x1 x2 x3 x4 : Int} (h : AL w B n F ao cp x0 x1 x2 x3 x4 X) (h0 : Row w B 5 n F (.slice ao n cp)) (hb : Below X.heap.size X X') : AL w B n F ao cp x0 x1 x2 x3 x4 X' :=
  h.grown h0 (row := none) ⟨hb.os, hb.tape, hb.output, hb.size, fun k hk _ => hb.block k hk⟩ (fun r e => by cases e)
theorem cmp_neg (a x : Int) : cmpOf a x < 0 ↔ a < x := by
  unfold cmpOf
  constructor
  · intro h
    by_cases h1 : a < x
    · exact h1
    · simp [h1] at h
      split at h <;> omega
  · intro h
    simp [h]
theorem cmp_zero (a x : Int) : cmpOf a x = 0 ↔ a = x := by
  unfold cmpOf
  constructor
  · intro h
    by_cases h1 : a < x
    · simp [h1] at h
    · by_cases h2 : x < a
      · simp [h1, h2] at h
      · omega
  · rintro rfl
    simp
/-- What the search answers. -/
def FoundL (w : World) (n : Nat) (F : Nat → Int) (x0 : Int) (e : Ending) (w' : World) : Prop := ∃ (k : Nat) (r : Bool), e = .returned (.tuple #[.int .i64 k, .bool r]) ∧ placeAt (aheadL F x0) n k ∧ (r = true ↔ k < n ∧ F (k * 5) = x0) ∧ Below w.heap.size w w'
set_option maxRecDepth 100000 in
set_option maxHeartbeats 4000000 in
theorem searchL_any (n : Nat) (F : Nat → Int) (ao : Option Addr) (cp : Nat) (B : Nat) (x0 x1 x2 x3 x4 : Int) (w : World) (h : Row w B 5 n F (.slice ao n cp)) (hn : n ≤ 1000) (hmono : ∀ i j, i ≤ j → j < n → aheadL F x0 j → aheadL F x0 i) :
    Calls Tryz.prog 64 #[.slice ao n cp, .agg #[.int .i64 x0, .int .i64 x1, .int .i64 x2, .int .i64 x3, .int .i64 x4], .func (.func 65) #[] #[]] w (FoundL w n F x0) := by
  have H : Hid (Row w B 5 n F (.slice ao n cp)) := h
  have HM : Hid (∀ i j, i ≤ j → j < n → aheadL F x0 j → aheadL F x0 i) := hmono
  clear h hmono
  go_enter Tryz.func64, Tryz.ntmps64
  go_wp2
  go_loopw [9, 10] (fun a b wr => ∃ i j : Nat, i ≤ j ∧ j ≤ n ∧ a = .int .i64 i ∧ b = .int .i64 j ∧ Hid (∀ q, q < i → aheadL F x0 q) ∧ Hid (∀ q, j ≤ q → q < n → ¬ aheadL F x0 q) ∧ Hid (AL w B n F ao cp x0 x1 x2 x3 x4 wr)) (fun a b _ => (intOf b).toNat - (intOf a).toNat)
  case atStart =>
    refine ⟨0, n, Nat.zero_le _, Nat.le_refl _, rfl, rfl, fun q hq => absurd hq (Nat.not_lt_zero q), fun q h1 h2 => absurd h2 (Nat.not_lt.2 h1), ?_⟩
    exact ⟨⟨World.cell?_alloc_mark w _ _ _ 0, World.cell?_alloc_mark w _ _ _ 1, World.cell?_alloc_mark w _ _ _ 2, World.cell?_alloc_mark w _ _ _ 3, World.cell?_alloc_mark w _ _ _ 4⟩, H.out.alloc _, below_alloc _ _⟩
  case round =>
    obtain ⟨i, j, hij, hj, rfl, rfl, HA, HB, HS⟩ := hrel
    by_cases hlt : i < j
    case neg =>
      obtain rfl : i = j := by omega
      have HP : Hid (placeAt (aheadL F x0) n i) := ⟨hj, HA.out, fun q => HB.out i (Nat.le_refl _) q⟩
      clear HA HB hij hlt
      go_upto_region 8 with fail
      by_cases hin : i < n
      · obtain ⟨g, o, hao, _, hg, y0, y1, y2, y3, y4⟩ := HS.out.2.1.at5 hin
        subst hao
        obtain ⟨n0, N0⟩ : ∃ x, F (i * 5) = x := ⟨_, rfl⟩
        rw [N0] at y0
        obtain ⟨n1, N1⟩ : ∃ x, F (i * 5 + 1) = x := ⟨_, rfl⟩
        rw [N1] at y1
        obtain ⟨n2, N2⟩ : ∃ x, F (i * 5 + 2) = x := ⟨_, rfl⟩
        rw [N2] at y2
        obtain ⟨n3, N3⟩ : ∃ x, F (i * 5 + 3) = x := ⟨_, rfl⟩
        rw [N3] at y3
        obtain ⟨n4, N4⟩ : ∃ x, F (i * 5 + 4) = x := ⟨_, rfl⟩
        rw [N4] at y4
        have HN : Hid (F (i * 5) = n0) := N0
        clear N0 N1 N2 N3 N4
        have dn : decide (i < n) = true := decide_eq_true hin
        refine wp_region_held_drew (S := fun X => (X.cell? ⟨w.heap.size, 0, none⟩ = some (.int .i64 x0) ∧ X.cell? ⟨w.heap.size, 1, none⟩ = some (.int .i64 x1) ∧ X.cell? ⟨w.heap.size, 2, none⟩ = some (.int .i64 x2) ∧ X.cell? ⟨w.heap.size, 3, none⟩ = some (.int .i64 x3) ∧ X.cell? ⟨w.heap.size, 4, none⟩ = some (.int .i64 x4)) ∧ (X.cell? ⟨g, o + i * 5, none⟩ = some (.int .i64 n0) ∧ X.cell? ⟨g, o + i * 5 + 1, none⟩ = some (.int .i64 n1) ∧ X.cell? ⟨g, o + i * 5 + 2, none⟩ = some (.int .i64 n2) ∧ X.cell? ⟨g, o + i * 5 + 3, none⟩ = some (.int .i64 n3) ∧ X.cell? ⟨g, o + i * 5 + 4, none⟩ = some (.int .i64 n4)) ∧ AL w B n F (some ⟨g, o, none⟩) cp x0 x1 x2 x3 x4 X) (by kernel_rfl) ⟨HS.out.1, ⟨y0, y1, y2, y3, y4⟩, HS.out.drew⟩ (fun hS => ?_)
        refine wpAnyH_take (i := 0) (v := ?_) rfl (by kernel_rfl) (by kernel_rfl) (by kernel_rfl) (fun _ _ _ h => h) (Or.inl ⟨by kernel_rfl, ?_⟩) hS ?_
        rotate_left
        · intro wx hx
          obtain ⟨⟨hx0, hx1, hx2, hx3, hx8⟩, ⟨hx4, hx5, hx6, hx7, hx9⟩, _⟩ := hx
          go_simp
          try with_reducible rfl
        refine wpAnyH_take (i := 1) (v := ?_) rfl (by kernel_rfl) (by kernel_rfl) (by kernel_rfl) (fun _ _ _ h => h) (Or.inl ⟨by kernel_rfl, ?_⟩) hS ?_
        rotate_left
        · intro wx hx
          obtain ⟨⟨hx0, hx1, hx2, hx3, hx8⟩, ⟨hx4, hx5, hx6, hx7, hx9⟩, _⟩ := hx
          go_simp
          try with_reducible rfl
        refine wpAnyH_take (i := 2) (v := ?_) rfl (by kernel_rfl) (by kernel_rfl) (by kernel_rfl) (fun _ _ _ h => h) (Or.inl ⟨by kernel_rfl, ?_⟩) hS ?_
        rotate_left
        · intro wx hx
          obtain ⟨⟨hx0, hx1, hx2, hx3, hx8⟩, ⟨hx4, hx5, hx6, hx7, hx9⟩, _⟩ := hx
          go_simp
          try with_reducible rfl
        refine wpAnyH_take (i := 3) (v := ?_) rfl (by kernel_rfl) (by kernel_rfl) (by kernel_rfl) (fun _ _ _ h => h) (Or.inl ⟨by kernel_rfl, ?_⟩) hS ?_
        rotate_left
        · intro wx hx
          obtain ⟨⟨hx0, hx1, hx2, hx3, hx8⟩, ⟨hx4, hx5, hx6, hx7, hx9⟩, _⟩ := hx
          go_simp
          try with_reducible rfl
        refine wpAnyH_take (i := 4) (v := ?_) rfl (by kernel_rfl) (by kernel_rfl) (by kernel_rfl) (fun _ _ _ h => h) (Or.inl ⟨by kernel_rfl, ?_⟩) hS ?_
        rotate_left
        · intro wx hx
          obtain ⟨⟨hx0, hx1, hx2, hx3, hx8⟩, ⟨hx4, hx5, hx6, hx7, hx9⟩, _⟩ := hx
          go_simp
          try with_reducible rfl
        refine wpAnyH_take (i := 5) (v := ?_) rfl (by kernel_rfl) (by kernel_rfl) (by kernel_rfl) (fun _ _ _ h => h) (Or.inl ⟨by kernel_rfl, ?_⟩) hS ?_
        rotate_left
        · intro wx hx
          obtain ⟨⟨hx0, hx1, hx2, hx3, hx8⟩, ⟨hx4, hx5, hx6, hx7, hx9⟩, _⟩ := hx
          go_simp
          try with_reducible rfl
        refine wpAnyH_take (i := 6) (v := ?_) rfl (by kernel_rfl) (by kernel_rfl) (by kernel_rfl) (fun _ _ _ h => h) (Or.inl ⟨by kernel_rfl, ?_⟩) hS ?_
        rotate_left
        · intro wx hx
          obtain ⟨⟨hx0, hx1, hx2, hx3, hx8⟩, ⟨hx4, hx5, hx6, hx7, hx9⟩, _⟩ := hx
          go_simp
          try with_reducible rfl
        refine wpAnyH_take (i := 7) (v := ?_) rfl (by kernel_rfl) (by kernel_rfl) (by kernel_rfl) (fun _ _ _ h => h) (Or.inl ⟨by kernel_rfl, ?_⟩) hS ?_
        rotate_left
        · intro wx hx
          obtain ⟨⟨hx0, hx1, hx2, hx3, hx8⟩, ⟨hx4, hx5, hx6, hx7, hx9⟩, _⟩ := hx
          go_simp
          try with_reducible rfl
        refine wpAnyH_take (i := 8) (v := ?_) rfl (by kernel_rfl) (by kernel_rfl) (by kernel_rfl) (fun _ _ _ h => h) (Or.inl ⟨by kernel_rfl, ?_⟩) hS ?_
        rotate_left
        · intro wx hx
          obtain ⟨⟨hx0, hx1, hx2, hx3, hx8⟩, ⟨hx4, hx5, hx6, hx7, hx9⟩, _⟩ := hx
          go_simp
          try with_reducible rfl
        refine wpAnyH_take (i := 9) (v := ?_) rfl (by kernel_rfl) (by kernel_rfl) (by kernel_rfl) (fun _ _ _ h => h) (Or.inl ⟨by kernel_rfl, ?_⟩) hS ?_
        rotate_left
        · intro wx hx
          obtain ⟨⟨hx0, hx1, hx2, hx3, hx8⟩, ⟨hx4, hx5, hx6, hx7, hx9⟩, _⟩ := hx
          go_simp
          try with_reducible rfl
        refine wpAnyH_take (i := 10) (v := ?_) rfl (by kernel_rfl) (by kernel_rfl) (by kernel_rfl) (fun _ _ _ h => h) (Or.inl ⟨by kernel_rfl, ?_⟩) hS ?_
        rotate_left
        · intro wx hx
          obtain ⟨⟨hx0, hx1, hx2, hx3, hx8⟩, ⟨hx4, hx5, hx6, hx7, hx9⟩, _⟩ := hx
          go_simp
          try with_reducible rfl
        refine wpAnyH_ready (rs := [11]) (by kernel_rfl) (by simp) ?_
        refine AllReadyH.cons rfl (fun K hK => ?_) AllReadyH.nil
        go_simp
        go_wp2_with fail
        obtain ⟨r, hr⟩ : ∃ r, cmpOf n0 x0 = r := ⟨_, rfl⟩
        refine (compareLocks_is n0 n1 n2 n3 n4 x0 x1 x2 x3 x4 r hr _).mono ?_
        rintro e w1 ⟨rfl, q1⟩
        have S1 : AL w B n F (some ⟨g, o, none⟩) cp x0 x1 x2 x3 x4 w1 := hS.2.2.later H.out q1
        obtain ⟨_, ⟨y0, y1, y2, y3, y4⟩, _⟩ := hS
        have y0' := (q1.cell (p := ⟨g, o + i * 5, none⟩) (lt_cell y0)).trans y0
        have y1' := (q1.cell (p := ⟨g, o + i * 5 + 1, none⟩) (lt_cell y1)).trans y1
        have y2' := (q1.cell (p := ⟨g, o + i * 5 + 2, none⟩) (lt_cell y2)).trans y2
        have y3' := (q1.cell (p := ⟨g, o + i * 5 + 3, none⟩) (lt_cell y3)).trans y3
        have y4' := (q1.cell (p := ⟨g, o + i * 5 + 4, none⟩) (lt_cell y4)).trans y4
        go_wp2_with fail
        refine hK.out _ _ ⟨S1.1, ⟨y0', y1', y2', y3', y4'⟩, S1⟩ (fun hS => ?_)
        clear hK K y0 y1 y2 y3 y4 y0' y1' y2' y3' y4' q1 S1 HS
        by_cases ha : n0 = x0
        · obtain rfl : r = 0 := by rw [← hr]; exact (cmp_zero n0 x0).2 ha
          have HR : Hid (F (i * 5) = x0) := HN.out.trans ha
          clear ha hr HN
          refine wpAnyH_take (i := 12) (v := ?_) rfl (by kernel_rfl) (by kernel_rfl) (by kernel_rfl) (fun _ _ _ h => h) (Or.inl ⟨by kernel_rfl, ?_⟩) hS ?_
          rotate_left
          · intro wx hx
            obtain ⟨⟨hx0, hx1, hx2, hx3, hx8⟩, ⟨hx4, hx5, hx6, hx7, hx9⟩, _⟩ := hx
            go_simp
            try with_reducible rfl
          refine wpAnyH_take (i := 13) (v := ?_) rfl (by kernel_rfl) (by kernel_rfl) (by kernel_rfl) (fun _ _ _ h => h) (Or.inl ⟨by kernel_rfl, ?_⟩) hS ?_
          rotate_left
          · intro wx hx
            obtain ⟨⟨hx0, hx1, hx2, hx3, hx8⟩, ⟨hx4, hx5, hx6, hx7, hx9⟩, _⟩ := hx
            go_simp
            try with_reducible rfl
          refine wpAnyH_take (i := 14) (v := ?_) rfl (by kernel_rfl) (by kernel_rfl) (by kernel_rfl) (fun _ _ _ h => h) (Or.inl ⟨by kernel_rfl, ?_⟩) hS ?_
          rotate_left
          · intro wx hx
            obtain ⟨⟨hx0, hx1, hx2, hx3, hx8⟩, ⟨hx4, hx5, hx6, hx7, hx9⟩, _⟩ := hx
            go_simp
            try with_reducible rfl
          refine wpAnyH_take (i := 15) (v := ?_) rfl (by kernel_rfl) (by kernel_rfl) (by kernel_rfl) (fun _ _ _ h => h) (Or.inl ⟨by kernel_rfl, ?_⟩) hS ?_
          rotate_left
          · intro wx hx
            obtain ⟨⟨hx0, hx1, hx2, hx3, hx8⟩, ⟨hx4, hx5, hx6, hx7, hx9⟩, _⟩ := hx
            go_simp
            try with_reducible rfl
          refine wpAnyH_done (by kernel_rfl) ?_ _
          go_simp
          go_wp2
          go_ret2
          exact ⟨i, true, rfl, HP.out, ⟨fun _ => ⟨hin, HR.out⟩, fun _ => rfl⟩, hS.2.2.2.2⟩
        · have dr : (r == 0) = false := beq_eq_false_iff_ne.2 (by rw [← hr]; exact fun q => ha ((cmp_zero n0 x0).1 q))
          have HR : Hid (¬ F (i * 5) = x0) := fun q => ha (HN.out.symm.trans q)
          clear ha hr HN
          refine wpAnyH_take (i := 12) (v := ?_) rfl (by kernel_rfl) (by kernel_rfl) (by kernel_rfl) (fun _ _ _ h => h) (Or.inl ⟨by kernel_rfl, ?_⟩) hS ?_
          rotate_left
          · intro wx hx
            obtain ⟨⟨hx0, hx1, hx2, hx3, hx8⟩, ⟨hx4, hx5, hx6, hx7, hx9⟩, _⟩ := hx
            go_simp
            try with_reducible rfl
          refine wpAnyH_take (i := 13) (v := ?_) rfl (by kernel_rfl) (by kernel_rfl) (by kernel_rfl) (fun _ _ _ h => h) (Or.inl ⟨by kernel_rfl, ?_⟩) hS ?_
          rotate_left
          · intro wx hx
            obtain ⟨⟨hx0, hx1, hx2, hx3, hx8⟩, ⟨hx4, hx5, hx6, hx7, hx9⟩, _⟩ := hx
            go_simp
            try with_reducible rfl
          refine wpAnyH_take (i := 14) (v := ?_) rfl (by kernel_rfl) (by kernel_rfl) (by kernel_rfl) (fun _ _ _ h => h) (Or.inl ⟨by kernel_rfl, ?_⟩) hS ?_
          rotate_left
          · intro wx hx
            obtain ⟨⟨hx0, hx1, hx2, hx3, hx8⟩, ⟨hx4, hx5, hx6, hx7, hx9⟩, _⟩ := hx
            go_simp
            try with_reducible rfl
          refine wpAnyH_take (i := 15) (v := ?_) rfl (by kernel_rfl) (by kernel_rfl) (by kernel_rfl) (fun _ _ _ h => h) (Or.inl ⟨by kernel_rfl, ?_⟩) hS ?_
          rotate_left
          · intro wx hx
            obtain ⟨⟨hx0, hx1, hx2, hx3, hx8⟩, ⟨hx4, hx5, hx6, hx7, hx9⟩, _⟩ := hx
            go_simp
            try with_reducible rfl
          refine wpAnyH_done (by kernel_rfl) ?_ _
          go_simp
          go_wp2
          go_ret2
          exact ⟨i, false, rfl, HP.out, ⟨fun q => (Bool.false_ne_true q).elim, fun q => (HR.out q.2).elim⟩, hS.2.2.2.2⟩
      · have dn : decide (i < n) = false := decide_eq_false hin
        refine wp_region_held_drew (S := AL w B n F ao cp x0 x1 x2 x3 x4) (by kernel_rfl) HS.out.drew (fun hS => ?_)
        refine wpAnyH_take (i := 0) (v := ?_) rfl (by kernel_rfl) (by kernel_rfl) (by kernel_rfl) (fun _ _ _ h => h) (Or.inl ⟨by kernel_rfl, ?_⟩) hS ?_
        rotate_left
        · intro wx hx
          go_simp
          try with_reducible rfl
        refine wpAnyH_take (i := 1) (v := ?_) rfl (by kernel_rfl) (by kernel_rfl) (by kernel_rfl) (fun _ _ _ h => h) (Or.inl ⟨by kernel_rfl, ?_⟩) hS ?_
        rotate_left
        · intro wx hx
          go_simp
          try with_reducible rfl
        refine wpAnyH_take (i := 2) (v := ?_) rfl (by kernel_rfl) (by kernel_rfl) (by kernel_rfl) (fun _ _ _ h => h) (Or.inl ⟨by kernel_rfl, ?_⟩) hS ?_
        rotate_left
        · intro wx hx
          go_simp
          try with_reducible rfl
        refine wpAnyH_take (i := 3) (v := ?_) rfl (by kernel_rfl) (by kernel_rfl) (by kernel_rfl) (fun _ _ _ h => h) (Or.inl ⟨by kernel_rfl, ?_⟩) hS ?_
        rotate_left
        · intro wx hx
          go_simp
          try with_reducible rfl
        refine wpAnyH_take (i := 4) (v := ?_) rfl (by kernel_rfl) (by kernel_rfl) (by kernel_rfl) (fun _ _ _ h => h) (Or.inl ⟨by kernel_rfl, ?_⟩) hS ?_
        rotate_left
        · intro wx hx
          go_simp
          try with_reducible rfl
        refine wpAnyH_take (i := 5) (v := undef) rfl (by kernel_rfl) (by kernel_rfl) (by kernel_rfl) (fun _ _ _ h => h) (Or.inr ⟨by kernel_rfl, rfl⟩) hS ?_
        refine wpAnyH_take (i := 6) (v := undef) rfl (by kernel_rfl) (by kernel_rfl) (by kernel_rfl) (fun _ _ _ h => h) (Or.inr ⟨by kernel_rfl, rfl⟩) hS ?_
        refine wpAnyH_take (i := 7) (v := undef) rfl (by kernel_rfl) (by kernel_rfl) (by kernel_rfl) (fun _ _ _ h => h) (Or.inr ⟨by kernel_rfl, rfl⟩) hS ?_
        refine wpAnyH_take (i := 8) (v := undef) rfl (by kernel_rfl) (by kernel_rfl) (by kernel_rfl) (fun _ _ _ h => h) (Or.inr ⟨by kernel_rfl, rfl⟩) hS ?_
        refine wpAnyH_take (i := 9) (v := undef) rfl (by kernel_rfl) (by kernel_rfl) (by kernel_rfl) (fun _ _ _ h => h) (Or.inr ⟨by kernel_rfl, rfl⟩) hS ?_
        refine wpAnyH_take (i := 10) (v := undef) rfl (by kernel_rfl) (by kernel_rfl) (by kernel_rfl) (fun _ _ _ h => h) (Or.inr ⟨by kernel_rfl, rfl⟩) hS ?_
        refine wpAnyH_take (i := 11) (v := undef) rfl (by kernel_rfl) (by kernel_rfl) (by kernel_rfl) (fun _ _ _ h => h) (Or.inr ⟨by kernel_rfl, rfl⟩) hS ?_
        refine wpAnyH_take (i := 12) (v := undef) rfl (by kernel_rfl) (by kernel_rfl) (by kernel_rfl) (fun _ _ _ h => h) (Or.inr ⟨by kernel_rfl, rfl⟩) hS ?_
        refine wpAnyH_take (i := 13) (v := ?_) rfl (by kernel_rfl) (by kernel_rfl) (by kernel_rfl) (fun _ _ _ h => h) (Or.inl ⟨by kernel_rfl, ?_⟩) hS ?_
        rotate_left
        · intro wx hx
          go_simp
          try with_reducible rfl
        refine wpAnyH_take (i := 14) (v := ?_) rfl (by kernel_rfl) (by kernel_rfl) (by kernel_rfl) (fun _ _ _ h => h) (Or.inl ⟨by kernel_rfl, ?_⟩) hS ?_
        rotate_left
        · intro wx hx
          go_simp
          try with_reducible rfl
        refine wpAnyH_take (i := 15) (v := ?_) rfl (by kernel_rfl) (by kernel_rfl) (by kernel_rfl) (fun _ _ _ h => h) (Or.inl ⟨by kernel_rfl, ?_⟩) hS ?_
        rotate_left
        · intro wx hx
          go_simp
          try with_reducible rfl
        refine wpAnyH_done (by kernel_rfl) ?_ _
        go_simp
        go_wp2
        go_ret2
        exact ⟨i, false, rfl, HP.out, ⟨fun q => (Bool.false_ne_true q).elim, fun q => (hin q.1).elim⟩, hS.2.2⟩
    go_upto_region 5 with fail
    obtain ⟨m, hm⟩ : ∃ m : Nat, ((i : Int) + j) / 2 = m := ⟨(i + j) / 2, by omega⟩
    have hm1 : i ≤ m ∧ m < j := by omega
    rw [hm]
    clear hm
    obtain ⟨hm1, hm2⟩ := hm1
    have hmn : m < n := by omega
    obtain ⟨g, o, hao, _, hg, y0, y1, y2, y3, y4⟩ := HS.out.2.1.at5 hmn
    subst hao
    obtain ⟨n0, N0⟩ : ∃ x, F (m * 5) = x := ⟨_, rfl⟩
    rw [N0] at y0
    obtain ⟨n1, N1⟩ : ∃ x, F (m * 5 + 1) = x := ⟨_, rfl⟩
    rw [N1] at y1
    obtain ⟨n2, N2⟩ : ∃ x, F (m * 5 + 2) = x := ⟨_, rfl⟩
    rw [N2] at y2
    obtain ⟨n3, N3⟩ : ∃ x, F (m * 5 + 3) = x := ⟨_, rfl⟩
    rw [N3] at y3
    obtain ⟨n4, N4⟩ : ∃ x, F (m * 5 + 4) = x := ⟨_, rfl⟩
    rw [N4] at y4
    have HC : Hid (aheadL F x0 m ↔ n0 < x0) := by unfold aheadL; rw [N0]; exact Iff.rfl
    clear N0 N1 N2 N3 N4
    refine wp_region_held_drew (S := fun X => (X.cell? ⟨w.heap.size, 0, none⟩ = some (.int .i64 x0) ∧ X.cell? ⟨w.heap.size, 1, none⟩ = some (.int .i64 x1) ∧ X.cell? ⟨w.heap.size, 2, none⟩ = some (.int .i64 x2) ∧ X.cell? ⟨w.heap.size, 3, none⟩ = some (.int .i64 x3) ∧ X.cell? ⟨w.heap.size, 4, none⟩ = some (.int .i64 x4)) ∧ (X.cell? ⟨g, o + m * 5, none⟩ = some (.int .i64 n0) ∧ X.cell? ⟨g, o + m * 5 + 1, none⟩ = some (.int .i64 n1) ∧ X.cell? ⟨g, o + m * 5 + 2, none⟩ = some (.int .i64 n2) ∧ X.cell? ⟨g, o + m * 5 + 3, none⟩ = some (.int .i64 n3) ∧ X.cell? ⟨g, o + m * 5 + 4, none⟩ = some (.int .i64 n4)) ∧ AL w B n F (some ⟨g, o, none⟩) cp x0 x1 x2 x3 x4 X) (by kernel_rfl) ⟨HS.out.1, ⟨y0, y1, y2, y3, y4⟩, HS.out.drew⟩ (fun hS => ?_)
    refine wpAnyH_take (i := 0) (v := ?_) rfl (by kernel_rfl) (by kernel_rfl) (by kernel_rfl) (fun _ _ _ h => h) (Or.inl ⟨by kernel_rfl, ?_⟩) hS ?_
    rotate_left
    · intro wx hx
      obtain ⟨⟨hx0, hx1, hx2, hx3, hx8⟩, ⟨hx4, hx5, hx6, hx7, hx9⟩, _⟩ := hx
      go_simp
      try with_reducible rfl
    refine wpAnyH_take (i := 1) (v := ?_) rfl (by kernel_rfl) (by kernel_rfl) (by kernel_rfl) (fun _ _ _ h => h) (Or.inl ⟨by kernel_rfl, ?_⟩) hS ?_
    rotate_left
    · intro wx hx
      obtain ⟨⟨hx0, hx1, hx2, hx3, hx8⟩, ⟨hx4, hx5, hx6, hx7, hx9⟩, _⟩ := hx
      go_simp
      try with_reducible rfl
    refine wpAnyH_take (i := 2) (v := ?_) rfl (by kernel_rfl) (by kernel_rfl) (by kernel_rfl) (fun _ _ _ h => h) (Or.inl ⟨by kernel_rfl, ?_⟩) hS ?_
    rotate_left
    · intro wx hx
      obtain ⟨⟨hx0, hx1, hx2, hx3, hx8⟩, ⟨hx4, hx5, hx6, hx7, hx9⟩, _⟩ := hx
      go_simp
      try with_reducible rfl
    refine wpAnyH_take (i := 3) (v := ?_) rfl (by kernel_rfl) (by kernel_rfl) (by kernel_rfl) (fun _ _ _ h => h) (Or.inl ⟨by kernel_rfl, ?_⟩) hS ?_
    rotate_left
    · intro wx hx
      obtain ⟨⟨hx0, hx1, hx2, hx3, hx8⟩, ⟨hx4, hx5, hx6, hx7, hx9⟩, _⟩ := hx
      go_simp
      try with_reducible rfl
    refine wpAnyH_take (i := 4) (v := ?_) rfl (by kernel_rfl) (by kernel_rfl) (by kernel_rfl) (fun _ _ _ h => h) (Or.inl ⟨by kernel_rfl, ?_⟩) hS ?_
    rotate_left
    · intro wx hx
      obtain ⟨⟨hx0, hx1, hx2, hx3, hx8⟩, ⟨hx4, hx5, hx6, hx7, hx9⟩, _⟩ := hx
      go_simp
      try with_reducible rfl
    refine wpAnyH_take (i := 5) (v := ?_) rfl (by kernel_rfl) (by kernel_rfl) (by kernel_rfl) (fun _ _ _ h => h) (Or.inl ⟨by kernel_rfl, ?_⟩) hS ?_
    rotate_left
    · intro wx hx
      obtain ⟨⟨hx0, hx1, hx2, hx3, hx8⟩, ⟨hx4, hx5, hx6, hx7, hx9⟩, _⟩ := hx
      go_simp
      try with_reducible rfl
    refine wpAnyH_ready (rs := [6]) (by kernel_rfl) (by simp) ?_
    refine AllReadyH.cons rfl (fun K hK => ?_) AllReadyH.nil
    go_simp
    go_wp2_with fail
    obtain ⟨r, hr⟩ : ∃ r, cmpOf n0 x0 = r := ⟨_, rfl⟩
    refine (compareLocks_is n0 n1 n2 n3 n4 x0 x1 x2 x3 x4 r hr _).mono ?_
    rintro e w1 ⟨rfl, q1⟩
    have S1 : AL w B n F (some ⟨g, o, none⟩) cp x0 x1 x2 x3 x4 w1 := hS.2.2.later H.out q1
    obtain ⟨_, ⟨y0, y1, y2, y3, y4⟩, _⟩ := hS
    have y0' := (q1.cell (p := ⟨g, o + m * 5, none⟩) (lt_cell y0)).trans y0
    have y1' := (q1.cell (p := ⟨g, o + m * 5 + 1, none⟩) (lt_cell y1)).trans y1
    have y2' := (q1.cell (p := ⟨g, o + m * 5 + 2, none⟩) (lt_cell y2)).trans y2
    have y3' := (q1.cell (p := ⟨g, o + m * 5 + 3, none⟩) (lt_cell y3)).trans y3
    have y4' := (q1.cell (p := ⟨g, o + m * 5 + 4, none⟩) (lt_cell y4)).trans y4
    go_wp2_with fail
    refine hK.out _ _ ⟨S1.1, ⟨y0', y1', y2', y3', y4'⟩, S1⟩ (fun hS => ?_)
    clear hK K y0 y1 y2 y3 y4 y0' y1' y2' y3' y4' q1 S1 HS
    by_cases ha : n0 < x0
    · have dr : decide (r < 0) = true := decide_eq_true (by rw [← hr]; exact (cmp_neg n0 x0).2 ha)
      have HA1 : Hid (∀ q, q < m + 1 → aheadL F x0 q) := fun q hq => HM.out q m (by omega) hmn (HC.out.2 ha)
      clear ha hr HC HA
      refine wpAnyH_take (i := 7) (v := ?_) rfl (by kernel_rfl) (by kernel_rfl) (by kernel_rfl) (fun _ _ _ h => h) (Or.inl ⟨by kernel_rfl, ?_⟩) hS ?_
      rotate_left
      · intro wx hx
        obtain ⟨⟨hx0, hx1, hx2, hx3, hx8⟩, ⟨hx4, hx5, hx6, hx7, hx9⟩, _⟩ := hx
        go_simp
        try with_reducible rfl
      refine wpAnyH_done (by kernel_rfl) ?_ _
      go_simp
      go_wp2
      go_roundw
      case rel => exact ⟨m + 1, j, by omega, hj, by go_num, rfl, HA1, HB, hS.2.2⟩
      case measure => simp [intOf]; omega
    · have dr : decide (r < 0) = false := decide_eq_false (by rw [← hr]; exact fun q => ha ((cmp_neg n0 x0).1 q))
      have HB1 : Hid (∀ q, m ≤ q → q < n → ¬ aheadL F x0 q) := fun q h1 h2 h3 => ha (HC.out.1 (HM.out m q h1 h2 h3))
      clear ha hr HC HB
      refine wpAnyH_take (i := 7) (v := ?_) rfl (by kernel_rfl) (by kernel_rfl) (by kernel_rfl) (fun _ _ _ h => h) (Or.inl ⟨by kernel_rfl, ?_⟩) hS ?_
      rotate_left
      · intro wx hx
        obtain ⟨⟨hx0, hx1, hx2, hx3, hx8⟩, ⟨hx4, hx5, hx6, hx7, hx9⟩, _⟩ := hx
        go_simp
        try with_reducible rfl
      refine wpAnyH_done (by kernel_rfl) ?_ _
      go_simp
      go_wp2
      go_roundw
      case rel => exact ⟨i, m, hm1, by omega, rfl, rfl, HA, HB1, hS.2.2⟩
      case measure => simp [intOf]; omega
end
end Go.Proofs.YtkbjlnnincknaaaGreatDoor
