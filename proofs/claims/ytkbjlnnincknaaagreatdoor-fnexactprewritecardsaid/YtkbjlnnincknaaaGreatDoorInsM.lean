/-
  Own text, merged of InsL, InsM.
-/
import Derived.Test.YtkbjlnnincknaaaGreatDoorInsV
namespace Go.Proofs.YtkbjlnnincknaaaGreatDoor
section
open Go.RowKit Go.Lib
-- Own text. slices.Insert at a row of Locks of which the call has the block: one struct at place i.
theorem sizeL : (Tryz.prog.info? 53).map (·.size) = some 5 := by kernel_rfl
theorem underL : Tryz.prog.underlying 29 = some (.slice 53) := by kernel_rfl

set_option maxHeartbeats 4000000 in
set_option maxRecDepth 100000 in
/-- There is room, i is a place ahead of the end: in place. -/
theorem insL_shift (w : World) (g n c i vb vc : Nat) (F : Nat → Int) (X : Nat → Int) (hb : Blkk w g 53 (c * 5)) (hroom : n + 1 ≤ c) (hc63 : c ≤ 9223372036854775807) (hi : i < n) (hF : ∀ p, p < n * 5 → w.cell? ⟨g, p, none⟩ = some (.int .i64 (F p)))
    (hvb : vb ≠ g) (hv : Blkk w vb 53 5) (hxs : ∀ p, p < 5 → w.cell? ⟨vb, p, none⟩ = some (.int .i64 (X p))) :
    Calls Tryz.prog 66 #[.slice (some ⟨g, 0, none⟩) n c, .int .i64 i, .slice (some ⟨vb, 0, none⟩) 1 vc] w fun e w' =>
      e = .returned (.slice (some ⟨g, 0, none⟩) (n + 1) c) ∧ w' = (w.drew.setCells g ((i + 1) * 5) (vals (fun p => F (i * 5 + p)) ((n - i) * 5))).setCells g (i * 5) (vals X 5) := by
  have hz2 : ¬ ((i : Int) = (n : Int)) := by omega
  have hov : ∀ lb cb, (callFunc 92 #[.slice (some ⟨vb, 0, none⟩) 1 vc, .slice (some ⟨g, (i + 1) * 5, none⟩) lb cb]).run Tryz.prog w = .ok (.value (.bool false)) w := fun lb cb => by
    rw [run_callFunc_extern Tryz.func92 (by kernel_rfl) (by kernel_rfl) (by kernel_rfl) (e := Extern.SlicesOverlaps.overlaps #[29, 29] #[4]) (by kernel_rfl),
      Lib.run_overlaps_apart w _ _ 53 underL 5 (fun w => by kernel_rfl) ⟨vb, 0, none⟩ ⟨g, (i + 1) * 5, none⟩ 1 vc lb cb hvb _ _ _ _ hv.shape hb.shape (by omega) (hv.frozen _) (hv.frozen _)]
    rfl
  have hw1 : IntKind.i64.wrap ((i : Int) + 1) = (i : Int) + 1 := by rw [IntKind.wrap_i64]; omega
  have hw2 : IntKind.i64.wrap ((n : Int) + 1) = (n : Int) + 1 := by rw [IntKind.wrap_i64]; omega
  have hb1 : (0 : Int) ≤ (i : Int) + 1 := by omega
  have hin : i ≤ n := by omega
  have htn : ((i : Int) + 1).toNat = i + 1 := by omega
  have htn' : ((n : Int) + 1).toNat = n + 1 := by omega
  have hb2 : ¬ (c = i + 1) := by omega
  have hb3 : (i : Int) ≤ (n : Int) + 1 := by omega
  have hb4 : ¬ (c = i) := by omega
  have hb5 : ¬ ((c : Int) < (n : Int) + 1) := by omega
  have hb6 : (0 : Int) ≤ (n : Int) + 1 := by omega
  have hb7 : (n : Int) + 1 ≤ (c : Int) := by omega
  have hb8 : (i : Int) + 1 ≤ (n : Int) + 1 := by omega
  have hm1 : (n + 1) * 5 ≤ c * 5 := Nat.mul_le_mul_right 5 hroom
  have hcp1 : ∀ ty dc sc, (Builtin.copy_ #[29, 29] ty #[.slice (some ⟨g, (i + 1) * 5, none⟩) (n - i) dc, .slice (some ⟨g, i * 5, none⟩) (n + 1 - i) sc]).run Tryz.prog w.drew = .ok (goInt (Nat.min (n + 1 - i) (n - i))) (w.drew.setCells g ((i + 1) * 5) (vals (fun p => F (i * 5 + p)) ((n - i) * 5))) := fun ty dc sc =>
    run_copyM w.drew _ _ ty 53 5 g _ _ dc ⟨g, i * 5, none⟩ _ sc _ underL sizeL (by rw [vals_length]; congr 1; simp only [Nat.min_def]; split <;> omega)
      (fun j v hj => by obtain ⟨h1, rfl⟩ := vals_inv hj; rw [Addr.add_lit]; exact hF _ (by omega))
      (fun j hj => by rw [vals_length] at hj; exact hb.any (by omega)) (fun j hj => hb.frozen _) (vals_one _ _)
  obtain ⟨W1, hW1⟩ : ∃ W1, W1 = w.drew.setCells g ((i + 1) * 5) (vals (fun p => F (i * 5 + p)) ((n - i) * 5)) := ⟨_, rfl⟩
  have hbW : Blkk W1 g 53 (c * 5) := by rw [hW1]; exact Blkk.sets _ _ _ hb
  have hcp2 : ∀ ty dc, (Builtin.copy_ #[29, 29] ty #[.slice (some ⟨g, i * 5, none⟩) (n + 1 - i) dc, .slice (some ⟨vb, 0, none⟩) 1 vc]).run Tryz.prog W1 = .ok (goInt (Nat.min 1 (n + 1 - i))) (W1.setCells g (i * 5) (vals X 5)) := fun ty dc =>
    run_copyM W1 _ _ ty 53 5 g _ _ dc ⟨vb, 0, none⟩ 1 vc _ underL sizeL (by rw [vals_length]; simp only [Nat.min_def]; split <;> omega)
      (fun j v hj => by
        obtain ⟨h1, rfl⟩ := vals_inv hj
        rw [Addr.add_lit, hW1, World.cell?_setCells_out g _ _ _ _ (fun h _ => absurd h hvb), Nat.zero_add]
        exact hxs j h1)
      (fun j hj => by rw [vals_length] at hj; exact hbW.any (by omega)) (fun j hj => hbW.frozen _) (vals_one _ _)
  subst hW1
  clear hF hxs hb hv hbW
  go_enter Tryz.func66, Tryz.ntmps66
  go_wp2_with (simp only [hov])
  go_region_law (refine step_copyM rfl _ _ 29 29 rfl _ _ (by simp [Act.eval, Act.put]) (by simp [Act.eval, Act.put]) (hcp1 _ _ _) ?_)
  go_wp2_with (simp only [hcp2])
  go_ret
  exact ⟨rfl, rfl⟩

set_option maxHeartbeats 4000000 in
set_option maxRecDepth 100000 in
/-- There is no room, i is a place ahead of the end: a new row. -/
theorem insL_grow (w : World) (g n c i vb vc : Nat) (F : Nat → Int) (X : Nat → Int) (hb : Blkk w g 53 (c * 5)) (hnc : n ≤ c) (hroom : c < n + 1) (hn : n ≤ 1048576) (hi : i < n) (hF : ∀ p, p < n * 5 → w.cell? ⟨g, p, none⟩ = some (.int .i64 (F p)))
    (hv : Blkk w vb 53 5) (hxs : ∀ p, p < 5 → w.cell? ⟨vb, p, none⟩ = some (.int .i64 (X p))) :
    Calls Tryz.prog 66 #[.slice (some ⟨g, 0, none⟩) n c, .int .i64 i, .slice (some ⟨vb, 0, none⟩) 1 vc] w fun e w' =>
      ∃ G ROW, (G ≤ maxLen ∧ n + 1 ≤ G ∧ ROW.size = G * 5 ∧ (∀ p, p < i * 5 → ROW[p]? = some (.int .i64 (F p)))) ∧ e = .returned (.slice (some ⟨w.heap.size, 0, none⟩) (n + 1) G) ∧ w' = (((w.alloc (.cells ROW 53)).drew.setCells w.heap.size (i * 5) (vals X 5)).drew).setCells w.heap.size ((i + 1) * 5) (vals (fun p => F (i * 5 + p)) ((n - i) * 5)) := by
  have hz2 : ¬ ((i : Int) = (n : Int)) := by omega
  have hz3 : (c : Int) < (n : Int) + 1 := by omega
  obtain ⟨i0, hi0, hz0, hzs, hzb⟩ := info_parts infoz_Lock
  have hgw := hb.lt
  have hvw := hv.lt
  have hkk : (n : Int) + 1 - (i : Int) = ((n + 1 - i : Nat) : Int) := by omega
  have hik : i + (n + 1 - i) = n + 1 := by omega
  have hmi : i * 5 ≤ n * 5 := Nat.mul_le_mul_right 5 (by omega)
  have hold : (Builtin.firstCells i0.size i (.slice (some ⟨g, 0, none⟩) i c)).run Tryz.prog w.drew = .ok (vals F (i * 5)).toArray w.drew := by
    rw [hzs]
    exact run_firstCells_some w.drew 5 i ⟨g, 0, none⟩ i c (vals F (i * 5)) (by rw [vals_length]) (fun j v hj => by
      obtain ⟨h1, rfl⟩ := vals_inv hj
      rw [Addr.add_lit, Nat.zero_add]
      exact hF j (by omega))
  have hrz : ∀ ty, ∃ G ROW, (G ≤ maxLen ∧ n + 1 ≤ G ∧ ROW.size = G * 5 ∧ (∀ p, p < i * 5 → ROW[p]? = some (.int .i64 (F p)))) ∧ (Builtin.append_ #[29, 3] ty #[.slice (some ⟨g, 0, none⟩) i c, .int .i64 ((n : Int) + 1 - (i : Int))]).run Tryz.prog w = .ok (.slice (some ⟨w.heap.size, 0, none⟩) (n + 1) G) (w.drew.alloc (.cells ROW 53)) := fun ty => by
    have h := Lib.run_append_grow_zeros w 29 3 ty 53 i0 _ .i64 .i64 underL (by kernel_rfl) hi0 hz0 (some ⟨g, 0, none⟩) i c (vals F (i * 5)) hold (n + 1 - i) (by omega) (by omega) (by omega) (by omega) (by rw [hzb]; omega) (by rw [hzb, hik]; exact growslice_fits hroom (by omega))
    rw [hik] at h
    rw [hkk]
    have hG1 := grownCap_ge w (n + 1) c 53
    have hG2 := grownCap_le_maxLen w (n + 1) c 53 (by unfold maxLen; omega)
    refine ⟨_, _, ⟨hG2, hG1, ?_, ?_⟩, h⟩
    · simp [Builtin.zeroCells, Value.cells, vals_length]
      omega
    · intro p hp
      rw [Array.append_assoc, Array.getElem?_append_left (by simp [vals_length]; exact hp)]
      simp [vals, hp]
  obtain ⟨G, ROW, hG, hrw⟩ := hrz 29
  clear hrz
  obtain ⟨hG63, hGn, hRl, hR⟩ := hG
  have hm1 : (n + 1) * 5 ≤ G * 5 := Nat.mul_le_mul_right 5 hGn
  have hN : Blkk (w.alloc (.cells ROW 53)).drew w.heap.size 53 (G * 5) := (Blkk.made w ROW _ _ hRl).drew
  have hOb : ∀ j b, b < w.heap.size → (w.alloc (.cells ROW 53)).drew.cell? ⟨b, j, none⟩ = w.cell? ⟨b, j, none⟩ := fun j b h => by rw [drew_cell]; exact World.cell?_alloc_past (w := w) _ b j h
  have hcpA' : ∀ ty dc, (Builtin.copy_ #[29, 29] ty #[.slice (some ⟨w.heap.size, i * 5, none⟩) (n + 1 - i) dc, .slice (some ⟨vb, 0, none⟩) 1 vc]).run Tryz.prog (w.alloc (.cells ROW 53)).drew = .ok (goInt (Nat.min 1 (n + 1 - i))) ((w.alloc (.cells ROW 53)).drew.setCells w.heap.size (i * 5) (vals X 5)) := fun ty dc =>
    run_copyM _ _ _ ty 53 5 w.heap.size _ _ dc ⟨vb, 0, none⟩ 1 vc _ underL sizeL (by rw [vals_length]; simp only [Nat.min_def]; split <;> omega)
      (fun j v hj => by
        obtain ⟨h1, rfl⟩ := vals_inv hj
        rw [Addr.add_lit, hOb _ _ hvw, Nat.zero_add]
        exact hxs j h1)
      (fun j hj => by rw [vals_length] at hj; exact hN.any (by omega)) (fun j hj => hN.frozen _) (vals_one _ _)
  obtain ⟨W2, hW2⟩ : ∃ W2, W2 = (w.alloc (.cells ROW 53)).drew.setCells w.heap.size (i * 5) (vals X 5) := ⟨_, rfl⟩
  have hN2 : Blkk W2.drew w.heap.size 53 (G * 5) := by rw [hW2]; exact (Blkk.sets _ _ _ hN).drew
  have hcpB' : ∀ ty dc sc, (Builtin.copy_ #[29, 29] ty #[.slice (some ⟨w.heap.size, (i + 1) * 5, none⟩) (n - i) dc, .slice (some ⟨g, i * 5, none⟩) (n - i) sc]).run Tryz.prog W2.drew = .ok (goInt (Nat.min (n - i) (n - i))) (W2.drew.setCells w.heap.size ((i + 1) * 5) (vals (fun p => F (i * 5 + p)) ((n - i) * 5))) := fun ty dc sc =>
    run_copyM _ _ _ ty 53 5 w.heap.size _ _ dc ⟨g, i * 5, none⟩ _ sc _ underL sizeL (by rw [vals_length]; congr 1; simp only [Nat.min_def]; split <;> omega)
      (fun j v hj => by
        obtain ⟨h1, rfl⟩ := vals_inv hj
        rw [Addr.add_lit, drew_cell, hW2, World.cell?_setCells_out _ _ _ _ _ (fun h _ => absurd h (show g ≠ w.heap.size by omega)), hOb _ _ hgw]
        exact hF _ (by omega))
      (fun j hj => by rw [vals_length] at hj; exact hN2.any (by omega)) (fun j hj => hN2.frozen _) (vals_one _ _)
  clear hN2
  subst hW2
  have hG63' : G ≤ 9223372036854775807 := by unfold maxLen at hG63; omega
  have hGi : ¬ (G = i) := by omega
  have hGim : ¬ (G = i + 1) := by omega
  have hci : ¬ (c = i) := by omega
  have hw1 : IntKind.i64.wrap ((i : Int) + 1) = (i : Int) + 1 := by rw [IntKind.wrap_i64]; omega
  have hw2 : IntKind.i64.wrap ((n : Int) + 1) = (n : Int) + 1 := by rw [IntKind.wrap_i64]; omega
  have hw3 : IntKind.i64.wrap ((n : Int) + 1 - (i : Int)) = (n : Int) + 1 - (i : Int) := by rw [IntKind.wrap_i64]; omega
  have hb1 : (0 : Int) ≤ (i : Int) + 1 := by omega
  have hin : i ≤ n := by omega
  have htn : ((i : Int) + 1).toNat = i + 1 := by omega
  have hb3 : (i : Int) ≤ (n : Int) := by omega
  have hb8 : (i : Int) + 1 ≤ (n : Int) + 1 := by omega
  have hb9 : (i : Int) ≤ (n : Int) + 1 := by omega
  refine Calls.mono (R := fun e w' => e = .returned (.slice (some ⟨w.heap.size, 0, none⟩) (n + 1) G) ∧ w' = (((w.alloc (.cells ROW 53)).drew.setCells w.heap.size (i * 5) (vals X 5)).drew).setCells w.heap.size ((i + 1) * 5) (vals (fun p => F (i * 5 + p)) ((n - i) * 5))) ?_ (fun e w' h => ⟨G, ROW, ⟨hG63, hGn, hRl, hR⟩, h.1, h.2⟩)
  clear hkk hik hold hRl hR hG63 hN hOb hF hxs hb hv hi0 hz0 hzs hzb hm1 hmi
  go_enter Tryz.func66, Tryz.ntmps66
  go_wp2_with (first | (at_builtin; refine wpList_appM _ rfl _ _ 29 3 rfl (.slice (some ⟨g, 0, none⟩) i c) (.int .i64 ((n : Int) + 1 - (i : Int))) rfl rfl hrw ?_) | (simp only [hcpA']))
  go_region_law (refine step_copyM rfl _ _ 29 29 rfl _ _ (by simp [Act.eval, Act.put]) (by simp [Act.eval, Act.put]) (hcpB' _ _ _) ?_)
  go_wp2
  go_ret
  exact ⟨rfl, rfl⟩
end

section
open Go.RowKit Go.Lib
-- Own text. slices.Insert at a row of Locks: every way in one.
/-- What slices.Insert answers: the row with the struct at place i; nothing else has turned but the row's own block. -/
def InsL (w : World) (B n i : Nat) (F : Nat → Int) (xs : List Int) (v : Value) (e : Ending) (w' : World) : Prop :=
  ∃ ao cp, e = .returned (.slice ao (n + 1) cp) ∧ Own w' B 53 5 (n + 1) (insF F 5 n i xs) (.slice ao (n + 1) cp) ∧ w.grownBy w' v.ownBlock ∧ ∀ q, (Value.slice ao (n + 1) cp).ownBlock = some q → v.ownBlock = some q ∨ w.heap.size ≤ q
set_option maxHeartbeats 4000000 in
set_option maxRecDepth 100000 in
theorem insL_end (w : World) (B n vb vc : Nat) (F : Nat → Int) (xs : List Int) (v : Value) (hx : xs.length = 5) (h : Own w B 53 5 n F v) (hB : B ≤ w.heap.size) (hn : n < 1048576)
    (hv : Blkk w vb 53 5) (hxs : ∀ p, p < 5 → w.cell? ⟨vb, p, none⟩ = some (.int .i64 (xs.getD p 0))) :
    Calls Tryz.prog 66 #[v, .int .i64 n, .slice (some ⟨vb, 0, none⟩) 1 vc] w (InsL w B n n F xs v) := by
  have hrow : Row w 0 5 1 (fun p => xs.getD p 0) (.slice (some ⟨vb, 0, none⟩) 1 vc) := ⟨_, _, rfl, fun _ => ⟨vb, 0, rfl, Nat.zero_le _, hv.lt, fun p hp => by rw [Nat.zero_add]; exact hxs p (by omega)⟩⟩
  have hown : OwnM w B 53 5 v n (nums F (n * 5)) := by unfold OwnM; rw [nums_vals]; exact h
  obtain ⟨i0, hi0, hz0, hzs, hzb⟩ := info_parts infoz_Lock
  have hend : ∀ ao cp w', OwnM w' B 53 5 (.slice ao (n + 1) cp) (n + 1) (nums F (n * 5) ++ nums (fun p => xs.getD p 0) (1 * 5)) → w.grownBy w' v.ownBlock → (∀ q, (Value.slice ao (n + 1) cp).ownBlock = some q → v.ownBlock = some q ∨ w.heap.size ≤ q) → InsL w B n n F xs v (.returned (.slice ao (n + 1) cp)) w' := fun ao cp w' h1 h2 h3 => by
    refine ⟨ao, cp, rfl, (h1.own (by simp [nums_length]; omega)).congr (fun p hp => ?_), h2, h3⟩
    by_cases a1 : p < n * 5
    · rw [insF_lt a1, List.getD_eq_getElem?_getD, List.getElem?_append_left (by rw [nums_length]; exact a1)]
      simp [nums, a1]
    · have := insF_at (F := F) (n := n) (i := n) (p := p - n * 5) hx (by omega)
      rw [show n * 5 + (p - n * 5) = p by omega] at this
      rw [this, List.getD_eq_getElem?_getD, List.getElem?_append_right (by rw [nums_length]; omega), nums_length]
      simp [nums, show p - n * 5 < 5 by omega]
  obtain ⟨POST, hP⟩ : ∃ POST, POST = InsL w B n n F xs v := ⟨_, rfl⟩
  rw [← hP] at hend ⊢
  obtain ⟨ao, cp, rfl⟩ := h.form
  have hrun : ∀ ty, ∃ ao' cp' w', (Builtin.append_ #[29, 29] ty #[.slice ao n cp, .slice (some ⟨vb, 0, none⟩) 1 vc]).run Tryz.prog w = .ok (.slice ao' (n + 1) cp') w' ∧ POST (.returned (.slice ao' (n + 1) cp')) w' := fun ty => by
    obtain ⟨ao', cp', w', h1, h2, h3⟩ := run_app 29 ty 53 i0 _ 5 _ underL hi0 hz0 hzs hzb rfl (by omega) (by omega) w B n _ _ hown 0 1 _ _ hrow (by omega) hB
    have h4 := app_block 29 ty 53 i0 _ 5 _ underL hi0 hz0 hzs hzb (by omega) w B n F (fun p => xs.getD p 0) _ h (by omega) ⟨vb, 0, none⟩ vc (fun p hp => by rw [Addr.add_lit, Nat.zero_add]; exact hxs p hp) h1
    exact ⟨ao', cp', w', h1, hend _ _ _ h2 h3 h4⟩
  obtain ⟨ao', cp', w', hr, hfin⟩ := hrun 29
  clear hrun hend hown hrow hv hxs hP hi0 hz0 hzs hzb
  rcases h.parts with ⟨q, rfl⟩ | ⟨g, cap, q, _, hnc, hcm, _⟩
  · cases q
    clear h
    go_enter Tryz.func66, Tryz.ntmps66
    go_wp2_with (at_builtin; refine wpList_appM _ rfl _ _ 29 29 rfl (.slice none 0 0) (.slice (some ⟨vb, 0, none⟩) 1 vc) rfl rfl hr ?_)
    exact hfin
  · cases q
    clear h
    unfold maxLen at hcm
    by_cases hcn : cp = n
    · subst hcn
      go_enter Tryz.func66, Tryz.ntmps66
      go_wp2_with (at_builtin; refine wpList_appM _ rfl _ _ 29 29 rfl (.slice (some ⟨g, 0, none⟩) cp cp) (.slice (some ⟨vb, 0, none⟩) 1 vc) rfl rfl hr ?_)
      exact hfin
    · go_enter Tryz.func66, Tryz.ntmps66
      go_wp2_with (at_builtin; refine wpList_appM _ rfl _ _ 29 29 rfl (.slice (some ⟨g, 0, none⟩) n cp) (.slice (some ⟨vb, 0, none⟩) 1 vc) rfl rfl hr ?_)
      exact hfin
/-- slices.Insert of one struct. -/
theorem insL_any (w : World) (B n i vb vc : Nat) (F : Nat → Int) (xs : List Int) (v : Value) (hx : xs.length = 5) (h : Own w B 53 5 n F v) (hB : B ≤ w.heap.size) (hn : n < 1048576) (hi : i ≤ n)
    (hvb : v.ownBlock ≠ some vb) (hv : Blkk w vb 53 5) (hxs : ∀ p, p < 5 → w.cell? ⟨vb, p, none⟩ = some (.int .i64 (xs.getD p 0))) :
    Calls Tryz.prog 66 #[v, .int .i64 i, .slice (some ⟨vb, 0, none⟩) 1 vc] w (InsL w B n i F xs v) := by
  rcases Nat.eq_or_lt_of_le hi with rfl | hi
  · exact insL_end w B _ vb vc F xs v hx h hB hn hv hxs
  · rcases h.parts with ⟨rfl, rfl⟩ | ⟨g, c, rfl, hg, hnc, hcm, hb, hF⟩
    · exact absurd hi (Nat.not_lt_zero _)
    · have hgv : vb ≠ g := fun e => hvb (by rw [e]; rfl)
      have hm3 : (n - i) * 5 + i * 5 = n * 5 := by rw [← Nat.add_mul]; congr 1; omega
      by_cases hr : n + 1 ≤ c
      · have hm1 : (n + 1) * 5 ≤ c * 5 := Nat.mul_le_mul_right 5 hr
        refine (insL_shift w g n c i vb vc F (fun p => xs.getD p 0) hb hr (by unfold maxLen at hcm; omega) hi hF hgv hv hxs).mono ?_
        rintro e w' ⟨rfl, rfl⟩
        have hb1 := Blkk.sets (vals (fun p => F (i * 5 + p)) ((n - i) * 5)) ((i + 1) * 5) w.drew hb
        refine ⟨_, _, rfl, own_of (Blkk.sets _ _ _ hb1) hg hr hcm (ins_cells hx (Nat.le_of_lt hi) (fun p hp => ?_) (fun p hp => ?_) (fun p hp => ?_)), ?_⟩
        · rw [World.cell?_setCells_out g _ _ _ _ (fun _ _ => Or.inl hp), World.cell?_setCells_out g _ _ _ _ (fun _ _ => Or.inl (by show p < _; omega))]
          exact hF p (by omega)
        · exact sets_in g (i * 5) 5 (fun p => xs.getD p 0) _ (fun j hj => hb1.any (by omega)) hp
        · rw [World.cell?_setCells_out g _ _ _ _ (fun _ _ => Or.inr (by rw [vals_length]; show _ ≤ (i + 1) * 5 + p; omega))]
          exact sets_in g ((i + 1) * 5) ((n - i) * 5) (fun p => F (i * 5 + p)) w.drew (fun j hj => hb.drew.any (by omega)) hp
        · exact ⟨grown_trans (grown_trans (grown_drew w _) (grown_sets g _ _ _)) (grown_sets g _ _ _), fun q hq => Or.inl hq⟩
      · refine (insL_grow w g n c i vb vc F (fun p => xs.getD p 0) hb hnc (by omega) (by omega) hi hF hv hxs).mono ?_
        rintro e w' ⟨G, ROW, ⟨hG1, hG2, hG3, hG4⟩, rfl, rfl⟩
        have hm1 : (n + 1) * 5 ≤ G * 5 := Nat.mul_le_mul_right 5 hG2
        have hN : Blkk (w.alloc (.cells ROW 53)).drew w.heap.size 53 (G * 5) := (Blkk.made w ROW _ _ hG3).drew
        have hb1 : Blkk (((w.alloc (.cells ROW 53)).drew.setCells w.heap.size (i * 5) (vals (fun p => xs.getD p 0) 5)).drew) w.heap.size 53 (G * 5) := (Blkk.sets (vals (fun p => xs.getD p 0) 5) (i * 5) _ hN).drew
        refine ⟨_, _, rfl, own_of (Blkk.sets _ _ _ hb1) hB hG2 hG1 (ins_cells hx (Nat.le_of_lt hi) (fun p hp => ?_) (fun p hp => ?_) (fun p hp => ?_)), ?_⟩
        · rw [World.cell?_setCells_out _ _ _ _ _ (fun _ _ => Or.inl (by show p < _; omega))]
          rw [drew_cell, World.cell?_setCells_out _ _ _ _ _ (fun _ _ => Or.inl hp), drew_cell, World.cell?_alloc_at (w := w) ROW _ w.heap.size p rfl]
          exact hG4 p hp
        · rw [World.cell?_setCells_out _ _ _ _ _ (fun _ _ => Or.inl (by show i * 5 + p < _; omega))]
          rw [drew_cell]
          exact sets_in w.heap.size (i * 5) 5 (fun p => xs.getD p 0) ((w.alloc (.cells ROW 53)).drew) (fun j hj => hN.any (by omega)) hp
        · exact sets_in w.heap.size ((i + 1) * 5) ((n - i) * 5) (fun p => F (i * 5 + p)) _ (fun j hj => hb1.any (by omega)) hp
        · have g1 : w.grownBy (w.alloc (.cells ROW 53)).drew (some g) := grown_trans (grown_alloc w _ _) (grown_drew _ _)
          have g2 := grown_over g1 (grown_sets w.heap.size (vals (fun p => xs.getD p 0) 5) (i * 5) _) (Nat.le_refl _)
          have g3 := grown_trans g2 (grown_drew _ _)
          exact ⟨grown_over g3 (grown_sets w.heap.size (vals (fun p => F (i * 5 + p)) ((n - i) * 5)) ((i + 1) * 5) _) (Nat.le_refl _), fun q hq => by cases hq; exact Or.inr (Nat.le_refl _)⟩
end
end Go.Proofs.YtkbjlnnincknaaaGreatDoor
