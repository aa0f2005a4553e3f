/-
  Own text, merged of ColsX, ColsY, GrpL, StorA, Lay, PartD, SortD, StoA.
-/
import Derived.Test.YtphfiojhpfdpdaaGreatPk5
namespace Go.Proofs.YtphfiojhpfdpdaaGreat
section
open Go.RowKit Go.Maps
theorem all_next {p : Nat → Prop} {k : Nat} (h : ∀ j, j < k → p j) (q : p k) : ∀ j, j < k + 1 → p j := fun j hj => by
  rcases Nat.lt_or_ge j k with e | e
  · exact h j e
  · obtain rfl : j = k := by omega
    exact q
/-- The places of the puts among the first k structs (m numbers each; number kd the kind, number st the start). -/
def selP (F : Nat → Int) (m kd st : Nat) : Nat → List (Int × Int)
  | 0 => []
  | k + 1 => selP F m kd st k ++ (if F (k * m + kd) = 1 then [(F (k * m), F (k * m + st))] else [])
theorem selP_yes {F : Nat → Int} {m kd st k : Nat} (h : F (k * m + kd) = 1) : selP F m kd st (k + 1) = selP F m kd st k ++ [(F (k * m), F (k * m + st))] := by rw [selP, if_pos h]
theorem selP_no {F : Nat → Int} {m kd st k : Nat} (h : F (k * m + kd) ≠ 1) : selP F m kd st (k + 1) = selP F m kd st k := by rw [selP, if_neg h, List.append_nil]
theorem selP_le (F : Nat → Int) (m kd st : Nat) : ∀ k, (selP F m kd st k).length ≤ k
  | 0 => Nat.le_refl _
  | k + 1 => by
    have ih := selP_le F m kd st k
    by_cases h : F (k * m + kd) = 1
    · rw [selP_yes h, List.length_append, List.length_singleton]; omega
    · rw [selP_no h]; omega
theorem selP_mem {F : Nat → Int} {m kd st : Nat} (x y : Int) : ∀ k, (x, y) ∈ selP F m kd st k ↔ ∃ i, i < k ∧ F (i * m + kd) = 1 ∧ F (i * m) = x ∧ F (i * m + st) = y
  | 0 => by simp [selP]
  | k + 1 => by
    have ih := selP_mem (F := F) (m := m) (kd := kd) (st := st) x y k
    by_cases h : F (k * m + kd) = 1
    · rw [selP_yes h, List.mem_append, ih, List.mem_singleton, Prod.mk.injEq]
      constructor
      · rintro (⟨i, hi, r⟩ | ⟨rfl, rfl⟩)
        · exact ⟨i, by omega, r⟩
        · exact ⟨k, by omega, h, rfl, rfl⟩
      · rintro ⟨i, hi, r, rx, ry⟩
        by_cases e : i = k
        · subst e; exact Or.inr ⟨rx.symm, ry.symm⟩
        · exact Or.inl ⟨i, by omega, r, rx, ry⟩
    · rw [selP_no h, ih]
      constructor
      · rintro ⟨i, hi, r⟩; exact ⟨i, by omega, r⟩
      · rintro ⟨i, hi, r⟩
        by_cases e : i = k
        · subst e; exact absurd r.1 h
        · exact ⟨i, by omega, r⟩
/-- The numbers of a list of pairs. -/
def flat : List (Int × Int) → List Int
  | [] => []
  | p :: t => p.1 :: p.2 :: flat t
theorem flat_append (a b : List (Int × Int)) : flat (a ++ b) = flat a ++ flat b := by
  induction a with
  | nil => rfl
  | cons p t ih => simp [flat, ih]
theorem flat_length (a : List (Int × Int)) : (flat a).length = a.length * 2 := by
  induction a with
  | nil => rfl
  | cons p t ih => simp [flat, ih]; omega
theorem flat_at (a : List (Int × Int)) (i : Nat) (hi : i < a.length) : (flat a).getD (i * 2) 0 = (a[i]'hi).1 ∧ (flat a).getD (i * 2 + 1) 0 = (a[i]'hi).2 := by
  induction a generalizing i with
  | nil => simp at hi
  | cons p t ih =>
    match i, hi with
    | 0, _ => exact ⟨rfl, rfl⟩
    | i + 1, hi =>
      have := ih i (by simpa using hi)
      rw [show (i + 1) * 2 = i * 2 + 1 + 1 by omega]
      exact this
/-- A row of places that a call has made since w. -/
def Plc (w : World) (v : Value) (P : List (Int × Int)) (x : World) : Prop := OwnM x w.heap.size 200 2 v P.length (flat P) ∧ Below w.heap.size w x
theorem Plc.later {w x x' : World} {v : Value} {P : List (Int × Int)} (h : Plc w v P x) (hb : Below x.heap.size x x') : Plc w v P x' := ⟨h.1.later hb, h.2.trans (hb.mono h.2.size)⟩
theorem Plc.form {w x : World} {v : Value} {P : List (Int × Int)} (h : Plc w v P x) : ∃ ao cp, v = .slice ao P.length cp := h.1.form
theorem Plc.step {w x x' : World} {v v' : Value} {P : List (Int × Int)} {a b : Int} (h : Plc w v P x) (ho : x'.ownsRow w.heap.size 200 2 v' (P.length + 1) ((flat P).map (Value.int .i64) ++ [.int .i64 a, .int .i64 b])) (hg : x.grownBy x' v.ownBlock) : Plc w v' (P ++ [(a, b)]) x' := by
  refine ⟨?_, below_grownBy h.2 h.2.size (fun bb hbb => (h.1.block bb hbb).1) hg⟩
  unfold OwnM
  rw [flat_append, List.map_append, List.length_append]
  exact ho
theorem Plc.row {w x : World} {v : Value} {P : List (Int × Int)} (h : Plc w v P x) : Row x w.heap.size 2 P.length (fun p => (flat P).getD p 0) v := (h.1.own (flat_length P)).row.1
theorem infoz_place : (Tryz.prog.info? 200).map (fun i => (i.zero, i.size, i.bytes)) = some (some (.agg #[.int .i64 0, .int .i64 0]), 2, 16) := by kernel_rfl
def putP (nl : Nat) (l : Nat → Int) (nw : Nat) (k : Nat → Int) : List (Int × Int) := selP l 5 2 1 nl ++ selP k 4 3 2 nw
set_option maxRecDepth 100000 in
set_option maxHeartbeats 4000000 in
theorem putPlaces_any (nl : Nat) (l : Nat → Int) (nw : Nat) (kk : Nat → Int) (B : Nat) (v1 v2 : Value) (w : World) (h1 : Row w B 5 nl l v1) (h2 : Row w B 4 nw kk v2) (hl : nl ≤ 200) (hk : nw ≤ 200) :
    Calls Tryz.prog 178 #[v1, v2] w fun e w' => ∃ v, e = .returned v ∧ Plc w v (putP nl l nw kk) w' := by
  unfold putP
  obtain ⟨a1, c1, rfl⟩ := h1.form
  obtain ⟨a2, c2, rfl⟩ := h2.form
  have H1 : Hid (Row w B 5 nl l (.slice a1 nl c1)) := h1
  have H2 : Hid (Row w B 4 nw kk (.slice a2 nw c2)) := h2
  obtain ⟨i0, hi, hz0, hz1, hz2⟩ := info_parts infoz_place
  have HS0 : Hid (Plc w (.slice none 0 0) (selP l 5 2 1 0) w) := ⟨OwnM.nil _ _ _ _, Below.refl _ _⟩
  clear h1 h2
  go_enter Tryz.func178, Tryz.ntmps178
  go_wp2
  go_loopw [5, 12] (fun v i wr => ∃ (k : Nat), k ≤ nl ∧ i = .int .i64 k ∧ Hid (Plc w v (selP l 5 2 1 k) wr)) (fun _ i _ => nl - (intOf i).toNat)
  case atStart => exact ⟨0, Nat.zero_le _, rfl, HS0⟩
  case round =>
    clear HS0
    obtain ⟨k, hk, rfl, HS⟩ := hrel
    obtain ⟨ao, cp, rfl⟩ := HS.out.form
    by_cases hlt : k < nl
    case neg =>
      obtain rfl : nl = k := by omega
      have HS1 : Hid (Plc w (.slice ao (selP l 5 2 1 nl).length cp) (selP l 5 2 1 nl ++ selP kk 4 3 2 0) wr) := by
        unfold Hid
        rw [show selP kk 4 3 2 0 = [] from rfl, List.append_nil]
        exact HS.out
      clear HS
      go_wp2
      go_loopw [5, 30] (fun v i wr => ∃ (k : Nat), k ≤ nw ∧ i = .int .i64 k ∧ Hid (Plc w v (selP l 5 2 1 nl ++ selP kk 4 3 2 k) wr)) (fun _ i _ => nw - (intOf i).toNat)
      case atStart => exact ⟨0, Nat.zero_le _, rfl, HS1⟩
      case round =>
        clear HS1
        obtain ⟨k, hk, rfl, HS⟩ := hrel
        obtain ⟨ao, cp, rfl⟩ := HS.out.form
        by_cases hlt : k < nw
        case neg =>
          obtain rfl : nw = k := by omega
          go_wp2
          go_ret
          exact ⟨_, rfl, HS.out⟩
        obtain ⟨g, o, rfl, _, hg, x0, x1, x2, x3⟩ := (H2.out.later HS.out.2).at4 hlt
        obtain ⟨n0, N0⟩ : ∃ x, kk (k * 4) = x := ⟨_, rfl⟩
        rw [N0] at x0
        obtain ⟨n1, N1⟩ : ∃ x, kk (k * 4 + 1) = x := ⟨_, rfl⟩
        rw [N1] at x1
        obtain ⟨n2, N2⟩ : ∃ x, kk (k * 4 + 2) = x := ⟨_, rfl⟩
        rw [N2] at x2
        obtain ⟨n3, N3⟩ : ∃ x, kk (k * 4 + 3) = x := ⟨_, rfl⟩
        rw [N3] at x3
        have hP2 : Hid (Plc w (.slice ao (selP l 5 2 1 nl ++ selP kk 4 3 2 k).length cp) (selP l 5 2 1 nl ++ selP kk 4 3 2 k) (wr.alloc (.cells #[.int .i64 n0, .int .i64 n1, .int .i64 n2, .int .i64 n3] 211))) := HS.out.later (below_alloc _ _)
        by_cases hp : n3 = 1
        case neg =>
          have hd : (n3 == 1) = false := beq_eq_false_iff_ne.2 hp
          have E : Hid (Plc w (.slice ao (selP l 5 2 1 nl ++ selP kk 4 3 2 k).length cp) (selP l 5 2 1 nl ++ selP kk 4 3 2 (k + 1)) (wr.alloc (.cells #[.int .i64 n0, .int .i64 n1, .int .i64 n2, .int .i64 n3] 211))) := by
            unfold Hid
            rw [selP_no (by rw [N3]; exact hp)]
            exact hP2.out
          clear N0 N1 N2 N3 hp HS hP2
          go_wp2
          go_roundw
          case rel => exact ⟨k + 1, by omega, by go_num, E⟩
          case measure => simp [intOf]; omega
        subst hp
        have HL : Hid ((selP l 5 2 1 nl ++ selP kk 4 3 2 (k + 1)) = (selP l 5 2 1 nl ++ selP kk 4 3 2 k) ++ [(n0, n2)]) := by
          unfold Hid
          rw [selP_yes (by rw [N3])]
          rw [N0, N2, List.append_assoc]
        have hnle : (selP l 5 2 1 nl ++ selP kk 4 3 2 k).length ≤ 400 := by
          rw [List.length_append]
          have q0 := selP_le l 5 2 1 nl
          have q1 := selP_le kk 4 3 2 k
          omega
        obtain ⟨PP, hPP⟩ : ∃ PP, (selP l 5 2 1 nl ++ selP kk 4 3 2 k) = PP := ⟨_, rfl⟩
        rw [hPP] at HL hP2 hnle HS
        rw [hPP]
        have hP3 : Hid (Plc w (.slice ao PP.length cp) PP ((wr.alloc (.cells #[.int .i64 n0, .int .i64 n1, .int .i64 n2, .int .i64 1] 211)).alloc (.cells #[.int .i64 n0, .int .i64 n2] 200))) := hP2.out.later (below_alloc _ _)
        have hown := hP3.out.1
        have hsz : w.heap.size ≤ wr.heap.size := HS.out.2.size
        clear N0 N1 N2 N3 HS hP2 hPP
        go_wp2_with (at_builtin; refine wpList_append_own _ rfl _ _ 250 rfl w.heap.size 200 i0 (.agg #[.int .i64 0, .int .i64 0]) 2 16 Tryz.underlying250 hi hz0 hz1 hz2 rfl (by decide) _ _ _ rfl hown ⟨_, 0, none⟩ 1 1 [.int .i64 n0, .int .i64 n2] rfl rfl ?c1 ?c2 ?c3 ?c4 ?c5 ?_)
        case c1 =>
          intro q u hq
          match q, hq with
          | 0, hq => simp at hq; subst hq; simp [Addr.add]
          | 1, hq => simp at hq; subst hq; simp [Addr.add]
        case c2 =>
          intro u hu
          simp at hu
          rcases hu with rfl | rfl <;> rfl
        case c3 => unfold maxLen; omega
        case c4 => omega
        case c5 => simp; omega
        intro v' w2 ho hg2 _
        have E2 : Hid (Plc w v' (selP l 5 2 1 nl ++ selP kk 4 3 2 (k + 1)) w2) := by
          unfold Hid
          rw [HL.out]
          exact hP3.out.step ho hg2
        clear ho hg2 hown hP3 HL
        go_wp2
        go_roundw
        case rel => exact ⟨k + 1, by omega, by go_num, E2⟩
        case measure => simp [intOf]; omega
    obtain ⟨g, o, rfl, _, hg, x0, x1, x2, x3, x4⟩ := (H1.out.later HS.out.2).at5 hlt
    obtain ⟨n0, N0⟩ : ∃ x, l (k * 5) = x := ⟨_, rfl⟩
    rw [N0] at x0
    obtain ⟨n1, N1⟩ : ∃ x, l (k * 5 + 1) = x := ⟨_, rfl⟩
    rw [N1] at x1
    obtain ⟨n2, N2⟩ : ∃ x, l (k * 5 + 2) = x := ⟨_, rfl⟩
    rw [N2] at x2
    obtain ⟨n3, N3⟩ : ∃ x, l (k * 5 + 3) = x := ⟨_, rfl⟩
    rw [N3] at x3
    obtain ⟨n4, N4⟩ : ∃ x, l (k * 5 + 4) = x := ⟨_, rfl⟩
    rw [N4] at x4
    have hP2 : Hid (Plc w (.slice ao (selP l 5 2 1 k).length cp) (selP l 5 2 1 k) (wr.alloc (.cells #[.int .i64 n0, .int .i64 n1, .int .i64 n2, .int .i64 n3, .int .i64 n4] 209))) := HS.out.later (below_alloc _ _)
    by_cases hp : n2 = 1
    case neg =>
      have hd : (n2 == 1) = false := beq_eq_false_iff_ne.2 hp
      have E : Hid (Plc w (.slice ao (selP l 5 2 1 k).length cp) (selP l 5 2 1 (k + 1)) (wr.alloc (.cells #[.int .i64 n0, .int .i64 n1, .int .i64 n2, .int .i64 n3, .int .i64 n4] 209))) := by
        unfold Hid
        rw [selP_no (by rw [N2]; exact hp)]
        exact hP2.out
      clear N0 N1 N2 N3 N4 hp HS hP2
      go_wp2
      go_roundw
      case rel => exact ⟨k + 1, by omega, by go_num, E⟩
      case measure => simp [intOf]; omega
    subst hp
    have HL : Hid ((selP l 5 2 1 (k + 1)) = (selP l 5 2 1 k) ++ [(n0, n1)]) := by
      unfold Hid
      rw [selP_yes (by rw [N2])]
      rw [N0, N1]
    have hnle : (selP l 5 2 1 k).length ≤ 400 := by
      have q1 := selP_le l 5 2 1 k
      omega
    obtain ⟨PP, hPP⟩ : ∃ PP, (selP l 5 2 1 k) = PP := ⟨_, rfl⟩
    rw [hPP] at HL hP2 hnle HS
    rw [hPP]
    have hP3 : Hid (Plc w (.slice ao PP.length cp) PP ((wr.alloc (.cells #[.int .i64 n0, .int .i64 n1, .int .i64 1, .int .i64 n3, .int .i64 n4] 209)).alloc (.cells #[.int .i64 n0, .int .i64 n1] 200))) := hP2.out.later (below_alloc _ _)
    have hown := hP3.out.1
    have hsz : w.heap.size ≤ wr.heap.size := HS.out.2.size
    clear N0 N1 N2 N3 N4 HS hP2 hPP
    go_wp2_with (at_builtin; refine wpList_append_own _ rfl _ _ 250 rfl w.heap.size 200 i0 (.agg #[.int .i64 0, .int .i64 0]) 2 16 Tryz.underlying250 hi hz0 hz1 hz2 rfl (by decide) _ _ _ rfl hown ⟨_, 0, none⟩ 1 1 [.int .i64 n0, .int .i64 n1] rfl rfl ?c1 ?c2 ?c3 ?c4 ?c5 ?_)
    case c1 =>
      intro q u hq
      match q, hq with
      | 0, hq => simp at hq; subst hq; simp [Addr.add]
      | 1, hq => simp at hq; subst hq; simp [Addr.add]
    case c2 =>
      intro u hu
      simp at hu
      rcases hu with rfl | rfl <;> rfl
    case c3 => unfold maxLen; omega
    case c4 => omega
    case c5 => simp; omega
    intro v' w2 ho hg2 _
    have E2 : Hid (Plc w v' (selP l 5 2 1 (k + 1)) w2) := by
      unfold Hid
      rw [HL.out]
      exact hP3.out.step ho hg2
    clear ho hg2 hown hP3 HL
    go_wp2
    go_roundw
    case rel => exact ⟨k + 1, by omega, by go_num, E2⟩
    case measure => simp [intOf]; omega
theorem putP_needs {S : Sto} : (∀ x y, (x, y) ∈ putP S.nl S.l S.nw S.k → hasCell S S.nc x y) ↔ needs S := by
  unfold putP needs
  constructor
  · intro h
    exact ⟨fun i hi q => h _ _ (List.mem_append.2 (Or.inr ((selP_mem _ _ _).2 ⟨i, hi, q, rfl, rfl⟩))), fun i hi q => h _ _ (List.mem_append.2 (Or.inl ((selP_mem _ _ _).2 ⟨i, hi, q, rfl, rfl⟩)))⟩
  · intro h x y hm
    rcases List.mem_append.1 hm with q | q
    · obtain ⟨i, hi, q1, rfl, rfl⟩ := (selP_mem _ _ _).1 q
      exact h.2 i hi q1
    · obtain ⟨i, hi, q1, rfl, rfl⟩ := (selP_mem _ _ _).1 q
      exact h.1 i hi q1
theorem putP_wf {nl : Nat} {l : Nat → Int} {nw : Nat} {k : Nat → Int} (z1 : ∀ i, i < nl → lockF l i = 0) (z2 : ∀ i, i < nw → writeF k i = 0) {x y : Int} (h : (x, y) ∈ putP nl l nw k) : Wf x ∧ Wf y := by
  rcases List.mem_append.1 h with q | q
  · obtain ⟨i, hi, q1, rfl, rfl⟩ := (selP_mem _ _ _).1 q
    have e := lockF_zero (z1 i hi)
    have f := faultOf_zero e.1
    exact ⟨wf_small f.1 (by omega), wf_small (by omega) e.2.2⟩
  · obtain ⟨i, hi, q1, rfl, rfl⟩ := (selP_mem _ _ _).1 q
    have e := writeF_zero (z2 i hi)
    have f := faultOf_zero e.1
    exact ⟨wf_small f.1 (by omega), wf_small (by omega) e.2.2.2.2.1⟩
set_option maxRecDepth 100000 in
set_option maxHeartbeats 4000000 in
theorem putsHaveCells_any (S : Sto) (B : Nat) (v0 v1 v2 : Value) (r : Bool) (w : World) (h : St w B S v0 v1 v2) (hc : S.nc ≤ 200) (hl : S.nl ≤ 200) (hk : S.nw ≤ 200) (z0 : scan (cellF S.c) S.nc = 0) (z1 : scan (lockF S.l) S.nl = 0) (z2 : scan (writeF S.k) S.nw = 0) (hr : r = true ↔ needs S) :
    Calls Tryz.prog 144 #[.agg #[v0, v1, v2]] w fun e w' => e = .returned (.bool r) ∧ Below w.heap.size w w' := by
  obtain ⟨a0, c0, a1, c1, a2, c2, rfl, rfl, rfl⟩ := h.form
  have H : Hid (St w B S (.slice a0 S.nc c0) (.slice a1 S.nl c1) (.slice a2 S.nw c2)) := h
  have HR : Hid (r = true ↔ (∀ x y, (x, y) ∈ putP S.nl S.l S.nw S.k → hasCell S S.nc x y)) := hr.trans putP_needs.symm
  have HW : Hid (∀ x y, (x, y) ∈ putP S.nl S.l S.nw S.k → Wf x ∧ Wf y) := fun x y => putP_wf (scan_zero z1) (scan_zero z2)
  have Z0 : Hid (scan (cellF S.c) S.nc = 0) := z0
  clear h hr z0 z1 z2
  go_enter Tryz.func144, Tryz.ntmps144
  go_wp2_with fail
  refine (cellsByPlace_any S _ B _ ((H.out.alloc _).1) hc Z0.out).mono ?_
  rintro e w1 ⟨rfl, HP, hb1⟩
  have hB : Below w.heap.size w w1 := (below_alloc _ _).trans (hb1.mono (by simp))
  have hB3 := (Blk3.new w (.slice a0 S.nc c0) (.slice a1 S.nl c1) (.slice a2 S.nw c2) 149).later hb1
  have y1 := hB3.1.2.1
  have y2 := hB3.1.2.2
  have hsz : (w.alloc (.cells #[.slice a0 S.nc c0, .slice a1 S.nl c1, .slice a2 S.nw c2] 149)).heap.size = w.heap.size + 1 := by simp
  rw [hsz] at HP hb1
  rw [hsz]
  have HP1 : Hid (PM w1 (w.heap.size + 1) S.nc (cellM S S.nc)) := HP
  clear HP hb1 hB3 hsz
  go_wp2_with fail
  refine (putPlaces_any S.nl S.l S.nw S.k B _ _ w1 (H.out.later hB).2.1 (H.out.later hB).2.2 hl hk).mono ?_
  rintro e w2 ⟨v, rfl, HQ⟩
  obtain ⟨ao, cp, rfl⟩ := HQ.form
  obtain ⟨P, hP⟩ : ∃ P, putP S.nl S.l S.nw S.k = P := ⟨_, rfl⟩
  have hPl : P.length ≤ 400 := by
    rw [← hP, putP, List.length_append]
    have q0 := selP_le S.l 5 2 1 S.nl
    have q1 := selP_le S.k 4 3 2 S.nw
    omega
  rw [hP] at HR HW HQ
  rw [hP]
  clear hP y1 y2
  have HB2 : Hid (Below w.heap.size w w2) := hB.trans (HQ.2.mono hB.size)
  have HM : Hid (PM w2 (w.heap.size + 1) S.nc (cellM S S.nc)) := HP1.out.later HQ.2
  have HO : Hid (Row w2 w1.heap.size 2 P.length (fun p => (flat P).getD p 0) (.slice ao P.length cp)) := HQ.row
  clear HQ hB HP1 H
  go_wp2
  go_loopw [17] (fun i wr => ∃ (k : Nat), k ≤ P.length ∧ i = .int .i64 k ∧ Hid (∀ j, (hj : j < k) → (hj2 : j < P.length) → hasCell S S.nc (P[j]'hj2).1 (P[j]'hj2).2) ∧ Hid (Below w2.heap.size w2 wr)) (fun i _ => P.length - (intOf i).toNat)
  case atStart => exact ⟨0, Nat.zero_le _, rfl, fun j hj => absurd hj (Nat.not_lt_zero j), Below.refl _ _⟩
  case round =>
    obtain ⟨k, hk', rfl, HS, HE⟩ := hrel
    have HB3 : Hid (Below w.heap.size w wr) := HB2.out.trans (HE.out.mono HB2.out.size)
    by_cases hlt : k < P.length
    case neg =>
      have E : Hid (r = true) := HR.out.2 (fun x y hm => by
        obtain ⟨j, hj, e⟩ := List.mem_iff_getElem.1 hm
        have := HS.out j (by omega) hj
        rw [e] at this
        exact this)
      clear HS
      go_wp2
      go_ret
      exact ⟨by rw [E.out]; rfl, HB3.out⟩
    obtain ⟨g, o, ha, _, hg, hx⟩ := (HO.out.later HE.out).at hlt
    subst ha
    have x0 := hx 0 (by omega)
    have x1 := hx 1 (by omega)
    have hfa := flat_at P k hlt
    obtain ⟨n0, N0⟩ : ∃ x, (P[k]'hlt).1 = x := ⟨_, rfl⟩
    obtain ⟨n1, N1⟩ : ∃ x, (P[k]'hlt).2 = x := ⟨_, rfl⟩
    simp only [Nat.add_zero] at x0
    rw [hfa.1, N0] at x0
    rw [hfa.2, N1] at x1
    have hmem : (n0, n1) ∈ P := by rw [← N0, ← N1]; exact List.getElem_mem hlt
    have hwf := HW.out n0 n1 hmem
    have hM2 := (HM.out.later HE.out).alloc (.cells #[.int .i64 n0, .int .i64 n1] 200)
    have hlk := hM2.look hwf.1 hwf.2
    have HB4 : Hid (Below w2.heap.size w2 (wr.alloc (.cells #[.int .i64 n0, .int .i64 n1] 200))) := HE.out.alloc HE.out.size _
    have HB5 : Hid (Below w.heap.size w (wr.alloc (.cells #[.int .i64 n0, .int .i64 n1] 200))) := HB3.out.alloc HB3.out.size _
    obtain ⟨u, hu⟩ : ∃ u, (cellM S S.nc n0 n1).getD 0 = u := ⟨_, rfl⟩
    rw [hu] at hlk
    have hch := cellM_has S S.nc n0 n1
    cases hs : (cellM S S.nc n0 n1).isSome with
    | true =>
      rw [hs] at hlk hch
      have E : Hid (∀ j, (hj : j < k + 1) → (hj2 : j < P.length) → hasCell S S.nc (P[j]'hj2).1 (P[j]'hj2).2) := fun j hj hj2 => by
        by_cases e : j = k
        · subst e; rw [N0, N1]; exact hch.1 rfl
        · exact HS.out j (by omega) hj2
      clear hs hch hu hM2 hwf hmem hfa N0 N1 hx HS HE HB3
      go_wp2
      go_roundw
      case rel => exact ⟨k + 1, by omega, by go_num, E, HB4⟩
      case measure => simp [intOf]; omega
    | false =>
      rw [hs] at hlk hch
      have E : Hid (r = false) := by
        cases r with
        | false => rfl
        | true => exact absurd (hch.2 (HR.out.1 rfl n0 n1 hmem)) Bool.false_ne_true
      clear hs hch hu hM2 hwf hmem hfa N0 N1 hx HS HE HB3
      go_wp2
      go_ret
      exact ⟨by rw [E.out]; rfl, HB5.out⟩
end

section
open Go.RowKit Go.Maps
/-- What the loops of startsDiffer stand on. -/
def StartEnv (w : World) (S : Sto) (v0 v1 v2 : Value) (k : Nat) (x : World) : Prop := Blk3 x w.heap.size v0 v1 v2 ∧ PM x (w.heap.size + 1) k (writeM S k) ∧ Below w.heap.size w x
theorem StartEnv.later {w x x' : World} {S : Sto} {v0 v1 v2 : Value} {k : Nat} (h : StartEnv w S v0 v1 v2 k x) (hb : Below x.heap.size x x') : StartEnv w S v0 v1 v2 k x' :=
  ⟨h.1.later hb, h.2.1.later hb, h.2.2.trans (hb.mono h.2.2.size)⟩
set_option maxRecDepth 100000 in
set_option maxHeartbeats 4000000 in
theorem startsDiffer_any (S : Sto) (B : Nat) (v0 v1 v2 : Value) (r : Bool) (w : World) (h : St w B S v0 v1 v2) (hl : S.nl ≤ 200) (hk : S.nw ≤ 200) (z1 : scan (lockF S.l) S.nl = 0) (z2 : scan (writeF S.k) S.nw = 0) (hr : r = true ↔ once S) :
    Calls Tryz.prog 145 #[.agg #[v0, v1, v2]] w fun e w' => e = .returned (.bool r) ∧ Below w.heap.size w w' := by
  obtain ⟨a0, c0, a1, c1, a2, c2, rfl, rfl, rfl⟩ := h.form
  have H : Hid (St w B S (.slice a0 S.nc c0) (.slice a1 S.nl c1) (.slice a2 S.nw c2)) := h
  have HR : Hid (r = true ↔ once S) := hr
  have Z1 : Hid (∀ i, i < S.nl → lockF S.l i = 0) := scan_zero z1
  have Z2 : Hid (∀ i, i < S.nw → writeF S.k i = 0) := scan_zero z2
  clear h hr z1 z2
  have hmm := run_makeMap_i64
  have HE : Hid (StartEnv w S (.slice a0 S.nc c0) (.slice a1 S.nl c1) (.slice a2 S.nw c2) 0 ((w.alloc (.cells #[.slice a0 S.nc c0, .slice a1 S.nl c1, .slice a2 S.nw c2] 149)).alloc (.map #[] 0))) := by
    have hP := PM.made (w.alloc (.cells #[.slice a0 S.nc c0, .slice a1 S.nl c1, .slice a2 S.nw c2] 149))
    rw [show (w.alloc (.cells #[.slice a0 S.nc c0, .slice a1 S.nl c1, .slice a2 S.nw c2] 149)).heap.size = w.heap.size + 1 from by simp] at hP
    exact ⟨(Blk3.new w _ _ _ _).alloc _, hP, (below_alloc _ _).alloc (by simp) _⟩
  go_enter Tryz.func145, Tryz.ntmps145
  go_wp2
  go_loopw [20] (fun i wr => ∃ k : Nat, k ≤ S.nw ∧ i = .int .i64 k ∧ Hid (∀ j, j < k → onceW S j) ∧ Hid (StartEnv w S (.slice a0 S.nc c0) (.slice a1 S.nl c1) (.slice a2 S.nw c2) k wr)) (fun i _ => S.nw - (intOf i).toNat)
  case atStart => exact ⟨0, Nat.zero_le _, rfl, fun j hj => absurd hj (Nat.not_lt_zero j), HE⟩
  case round =>
    clear HE
    obtain ⟨k, hk', rfl, HS, HE⟩ := hrel
    by_cases hlt : k < S.nw
    case neg =>
      obtain rfl : k = S.nw := by omega
      have HW : Hid (∀ i, i < S.nw → onceW S i) := HS
      have y1 := HE.out.1.1.2.1
      clear HS
      go_wp2
      clear y1 hk' hlt
      go_loopw [44] (fun i wr => ∃ k : Nat, k ≤ S.nl ∧ i = .int .i64 k ∧ Hid (∀ j, j < k → onceL S j) ∧ Hid (StartEnv w S (.slice a0 S.nc c0) (.slice a1 S.nl c1) (.slice a2 S.nw c2) S.nw wr)) (fun i _ => S.nl - (intOf i).toNat)
      case atStart => exact ⟨0, Nat.zero_le _, rfl, fun j hj => absurd hj (Nat.not_lt_zero j), HE⟩
      case round =>
        clear HE
        obtain ⟨k, hk', rfl, HS, HE⟩ := hrel
        by_cases hlt : k < S.nl
        case neg =>
          have E : Hid (r = true) := HR.out.2 ⟨HW.out, fun i hi => HS.out i (by omega)⟩
          clear HS
          go_wp2
          go_ret
          exact ⟨by rw [E.out]; rfl, HE.out.2.2⟩
        obtain ⟨g, o, rfl, _, hg, x0, x1, x2, x3, x4⟩ := (H.out.2.1.later HE.out.2.2).at5 hlt
        obtain ⟨n0, N0⟩ : ∃ x, S.l (k * 5) = x := ⟨_, rfl⟩
        rw [N0] at x0
        obtain ⟨n1, N1⟩ : ∃ x, S.l (k * 5 + 1) = x := ⟨_, rfl⟩
        rw [N1] at x1
        obtain ⟨n2, N2⟩ : ∃ x, S.l (k * 5 + 2) = x := ⟨_, rfl⟩
        rw [N2] at x2
        obtain ⟨n3, N3⟩ : ∃ x, S.l (k * 5 + 3) = x := ⟨_, rfl⟩
        rw [N3] at x3
        obtain ⟨n4, N4⟩ : ∃ x, S.l (k * 5 + 4) = x := ⟨_, rfl⟩
        rw [N4] at x4
        have ZZ := lockF_zero (Z1.out k hlt)
        rw [N0, N1] at ZZ
        have hk2 := faultOf_zero ZZ.1
        have hw0 : Wf n0 := wf_small hk2.1 (by omega)
        have hw1 : Wf n1 := wf_small (by omega) (by omega)
        have hE2 : StartEnv w S (.slice a0 S.nc c0) (.slice (some ⟨g, o, none⟩) S.nl c1) (.slice a2 S.nw c2) S.nw (wr.alloc (.cells #[.int .i64 n0, .int .i64 n1, .int .i64 n2, .int .i64 n3, .int .i64 n4] 209)) := HE.out.later (below_alloc wr _)
        have PU : Hid (onceL S k ↔ ¬ hasWrite S S.nw n0 n1) := by
          unfold Hid onceL
          rw [N0, N1]
        clear N0 N1 N2 N3 N4 ZZ hk2
        have hlk := hE2.2.1.look hw0 hw1
        obtain ⟨u, hu⟩ : ∃ u, (writeM S S.nw n0 n1).getD 0 = u := ⟨_, rfl⟩
        rw [hu] at hlk
        clear hu
        by_cases hp : onceL S k
        · have hs : (writeM S S.nw n0 n1).isSome = false := by
            cases hq : (writeM S S.nw n0 n1).isSome with
            | false => rfl
            | true => exact absurd ((writeM_has S _ _ _).1 hq) (PU.out.1 hp)
          rw [hs] at hlk
          clear hs
          have E : Hid (∀ j, j < k + 1 → onceL S j) := all_next HS.out hp
          have HE2 : Hid (StartEnv w S (.slice a0 S.nc c0) (.slice (some ⟨g, o, none⟩) S.nl c1) (.slice a2 S.nw c2) S.nw (wr.alloc (.cells #[.int .i64 n0, .int .i64 n1, .int .i64 n2, .int .i64 n3, .int .i64 n4] 209))) := hE2
          clear hE2 HS PU hp hw0 hw1
          go_wp2
          go_roundw
          case rel => exact ⟨k + 1, by omega, by go_num, E, HE2⟩
          case measure => simp [intOf]; omega
        · have hs : (writeM S S.nw n0 n1).isSome = true := by
            refine (writeM_has S _ _ _).2 (Classical.byContradiction fun q => hp (PU.out.2 q))
          rw [hs] at hlk
          clear hs
          have E : Hid (r = false) := by
            cases r with
            | false => rfl
            | true => exact absurd ((HR.out.1 rfl).2 k hlt) hp
          have HE2 : Hid (StartEnv w S (.slice a0 S.nc c0) (.slice (some ⟨g, o, none⟩) S.nl c1) (.slice a2 S.nw c2) S.nw (wr.alloc (.cells #[.int .i64 n0, .int .i64 n1, .int .i64 n2, .int .i64 n3, .int .i64 n4] 209))) := hE2
          clear hE2 HS PU hp hw0 hw1
          go_wp2
          go_ret
          exact ⟨by rw [E.out]; rfl, HE2.out.2.2⟩
    obtain ⟨g, o, rfl, _, hg, x0, x1, x2, x3⟩ := (H.out.2.2.later HE.out.2.2).at4 hlt
    obtain ⟨n0, N0⟩ : ∃ x, S.k (k * 4) = x := ⟨_, rfl⟩
    rw [N0] at x0
    obtain ⟨n1, N1⟩ : ∃ x, S.k (k * 4 + 1) = x := ⟨_, rfl⟩
    rw [N1] at x1
    obtain ⟨n2, N2⟩ : ∃ x, S.k (k * 4 + 2) = x := ⟨_, rfl⟩
    rw [N2] at x2
    obtain ⟨n3, N3⟩ : ∃ x, S.k (k * 4 + 3) = x := ⟨_, rfl⟩
    rw [N3] at x3
    have ZZ := writeF_zero (Z2.out k hlt)
    rw [N0, N2, N3] at ZZ
    have hk2 := faultOf_zero ZZ.1
    have hw0 : Wf n0 := wf_small hk2.1 (by omega)
    have hw1 : Wf n2 := wf_small (by omega) (by omega)
    have hw2 : Wf n3 := wf_small (by omega) (by omega)
    have hE2 : StartEnv w S (.slice a0 S.nc c0) (.slice a1 S.nl c1) (.slice (some ⟨g, o, none⟩) S.nw c2) k ((wr.alloc (.cells #[.int .i64 n0, .int .i64 n1, .int .i64 n2, .int .i64 n3] 211)).alloc (.cells #[.int .i64 n0, .int .i64 n2] 200)) := (HE.out.later (below_alloc wr _)).later (below_alloc _ _)
    have PU : Hid (onceW S k ↔ ¬ hasWrite S k n0 n2) := by
      unfold Hid onceW
      rw [N0, N2]
    have NN : Hid (S.k (k * 4) = n0 ∧ S.k (k * 4 + 2) = n2 ∧ S.k (k * 4 + 3) = n3) := ⟨N0, N2, N3⟩
    clear N0 N1 N2 N3 ZZ hk2
    have hlk := hE2.2.1.look hw0 hw1
    obtain ⟨u, hu⟩ : ∃ u, (writeM S k n0 n2).getD 0 = u := ⟨_, rfl⟩
    rw [hu] at hlk
    clear hu
    by_cases hp : onceW S k
    · have hs : (writeM S k n0 n2).isSome = false := by
        cases hq : (writeM S k n0 n2).isSome with
        | false => rfl
        | true => exact absurd ((writeM_has S _ _ _).1 hq) (PU.out.1 hp)
      rw [hs] at hlk
      clear hs
      have E : Hid (∀ j, j < k + 1 → onceW S j) := all_next HS.out hp
      have hP := hE2.2.1
      have hB2 := hE2.2.2
      have HB3 : Hid (Blk3 ((wr.alloc (.cells #[.int .i64 n0, .int .i64 n1, .int .i64 n2, .int .i64 n3] 211)).alloc (.cells #[.int .i64 n0, .int .i64 n2] 200)) w.heap.size (.slice a0 S.nc c0) (.slice a1 S.nl c1) (.slice (some ⟨g, o, none⟩) S.nw c2)) := hE2.1
      have hsz : w.heap.size < ((wr.alloc (.cells #[.int .i64 n0, .int .i64 n1, .int .i64 n2, .int .i64 n3] 211)).alloc (.cells #[.int .i64 n0, .int .i64 n2] 200)).heap.size := hE2.1.lt
      clear hE2 HS PU hp
      go_wp2_with (first | (at_mapUpdate; refine wpList_put _ rfl _ _ _ rfl (w.heap.size + 1) k _ rfl hP (small_maxLen (Nat.le_trans hk' hk)) n0 n2 n3 rfl rfl hw0 hw1 hw2 ?_; intro w4 hP4 hg4) | go_in)
      go_roundw
      case rel => exact ⟨k + 1, by omega, by go_num, E, ⟨HB3.out.kept (hg4.block _ hsz (by simp)), by rw [← NN.out.1, ← NN.out.2.1, ← NN.out.2.2] at hP4; exact hP4, below_grown hB2 (Nat.le_of_lt hsz) (Nat.le_succ _) hg4⟩⟩
      case measure => simp [intOf]; omega
    · have hs : (writeM S k n0 n2).isSome = true := by
        refine (writeM_has S _ _ _).2 (Classical.byContradiction fun q => hp (PU.out.2 q))
      rw [hs] at hlk
      clear hs
      have E : Hid (r = false) := by
        cases r with
        | false => rfl
        | true => exact absurd ((HR.out.1 rfl).1 k hlt) hp
      have HE2 : Hid (StartEnv w S (.slice a0 S.nc c0) (.slice a1 S.nl c1) (.slice (some ⟨g, o, none⟩) S.nw c2) k ((wr.alloc (.cells #[.int .i64 n0, .int .i64 n1, .int .i64 n2, .int .i64 n3] 211)).alloc (.cells #[.int .i64 n0, .int .i64 n2] 200))) := hE2
      clear hE2 HS PU hp hw0 hw1 hw2
      go_wp2
      go_ret
      exact ⟨by rw [E.out]; rfl, HE2.out.2.2⟩
end
end Go.Proofs.YtphfiojhpfdpdaaGreat

namespace Go.Proofs.YtphfiojhpfdpdaaGreat
open Go.RowKit

theorem cellsFault_is (S : Sto) (v : Value) (B : Nat) (r : Int) (hr : scan (cellF S.c) S.nc = r) (w : World) (h : Row w B 3 S.nc S.c v) (hn : S.nc ≤ 200) :
    Calls Tryz.prog 141 #[v] w fun e w' => e = .returned (.int .i64 r) ∧ Below w.heap.size w w' :=
  (cellsFault_any S v B w h hn).mono fun e w' ⟨he, hw⟩ => ⟨by rw [he, hr], hw⟩
theorem locksFault_is (S : Sto) (v : Value) (B : Nat) (r : Int) (hr : scan (lockF S.l) S.nl = r) (w : World) (h : Row w B 5 S.nl S.l v) (hn : S.nl ≤ 200) :
    Calls Tryz.prog 142 #[v] w fun e w' => e = .returned (.int .i64 r) ∧ Below w.heap.size w w' :=
  (locksFault_any S v B w h hn).mono fun e w' ⟨he, hw⟩ => ⟨by rw [he, hr], hw⟩
theorem writesFault_is (S : Sto) (v : Value) (B : Nat) (r : Int) (hr : scan (writeF S.k) S.nw = r) (w : World) (h : Row w B 4 S.nw S.k v) (hn : S.nw ≤ 200) :
    Calls Tryz.prog 143 #[v] w fun e w' => e = .returned (.int .i64 r) ∧ Below w.heap.size w w' :=
  (writesFault_any S v B w h hn).mono fun e w' ⟨he, hw⟩ => ⟨by rw [he, hr], hw⟩
/-- What StoreFault stands on: its own copy of the store. -/
def BoxEnv (w : World) (B : Nat) (S : Sto) (v0 v1 v2 : Value) (x : World) : Prop := Blk3 x w.heap.size v0 v1 v2 ∧ St x B S v0 v1 v2 ∧ Below w.heap.size w x
theorem BoxEnv.later {w x x' : World} {B : Nat} {S : Sto} {v0 v1 v2 : Value} (h : BoxEnv w B S v0 v1 v2 x) (hb : Below x.heap.size x x') : BoxEnv w B S v0 v1 v2 x' :=
  ⟨h.1.later hb, h.2.1.later hb, h.2.2.trans (hb.mono h.2.2.size)⟩
set_option maxRecDepth 10000 in
set_option maxHeartbeats 4000000 in
theorem implFault_any (S : Sto) (v0 v1 v2 : Value) (B : Nat) (w : World) (h : St w B S v0 v1 v2) :
    Calls Tryz.prog 110 #[.agg #[v0, v1, v2]] w fun e w' => e = .returned (.int .i64 (storeF S)) ∧ Below w.heap.size w w' := by
  obtain ⟨a0, c0, a1, c1, a2, c2, rfl, rfl, rfl⟩ := h.form
  have HE : Hid (BoxEnv w B S (.slice a0 S.nc c0) (.slice a1 S.nl c1) (.slice a2 S.nw c2) (w.alloc (.cells #[.slice a0 S.nc c0, .slice a1 S.nl c1, .slice a2 S.nw c2] 149))) := ⟨Blk3.new w _ _ _ _, h.alloc _, below_alloc _ _⟩
  clear h
  by_cases m0 : 200 < S.nc
  · have E : Hid (storeF S = 2) := by unfold Hid storeF; rw [if_pos (Or.inl m0)]
    go_enter Tryz.func110, Tryz.ntmps110
    go_wp2_with fail
    go_wp2
    go_ret
    exact ⟨by rw [E.out]; rfl, HE.out.2.2⟩
  have m0' : decide ((200 : Int) < (S.nc : Int)) = false := decide_eq_false (by omega)
  by_cases m1 : 200 < S.nl
  · have E : Hid (storeF S = 2) := by unfold Hid storeF; rw [if_pos (Or.inr (Or.inl m1))]
    clear m0
    go_enter Tryz.func110, Tryz.ntmps110
    go_wp2_with fail
    go_wp2
    go_ret
    exact ⟨by rw [E.out]; rfl, HE.out.2.2⟩
  have m1' : decide ((200 : Int) < (S.nl : Int)) = false := decide_eq_false (by omega)
  by_cases m2 : 200 < S.nw
  · have E : Hid (storeF S = 2) := by unfold Hid storeF; rw [if_pos (Or.inr (Or.inr m2))]
    clear m0 m1
    go_enter Tryz.func110, Tryz.ntmps110
    go_wp2_with fail
    go_wp2
    go_ret
    exact ⟨by rw [E.out]; rfl, HE.out.2.2⟩
  have m2' : decide ((200 : Int) < (S.nw : Int)) = false := decide_eq_false (by omega)
  have HM : Hid (¬ (200 < S.nc ∨ 200 < S.nl ∨ 200 < S.nw)) := by unfold Hid; omega
  have hc : Hid (S.nc ≤ 200 ∧ S.nl ≤ 200 ∧ S.nw ≤ 200) := ⟨by omega, by omega, by omega⟩
  clear m0 m1 m2
  by_cases z0 : scan (cellF S.c) S.nc = 0
  case neg =>
    obtain ⟨f, hf⟩ : ∃ f, scan (cellF S.c) S.nc = f := ⟨_, rfl⟩
    have E : Hid (storeF S = f) := by unfold Hid storeF; rw [if_neg HM.out, if_pos z0]; exact hf
    have hfn : (f == 0) = false := beq_eq_false_iff_ne.2 (by rw [← hf]; exact z0)
    have F0 : Hid (scan (cellF S.c) S.nc = f) := hf
    clear hf z0
    go_enter Tryz.func110, Tryz.ntmps110
    go_wp2_with fail
    refine (cellsFault_is S _ B f F0.out _ HE.out.2.1.1 hc.out.1).mono ?_
    rintro e w1 ⟨rfl, q1⟩
    have HE : Hid (BoxEnv w B S (.slice a0 S.nc c0) (.slice a1 S.nl c1) (.slice a2 S.nw c2) w1) := HE.out.later q1
    have p0 := HE.out.1.1.1
    have p1 := HE.out.1.1.2.1
    have p2 := HE.out.1.1.2.2
    clear q1
    go_wp2_with fail
    go_wp2
    go_ret
    exact ⟨by rw [E.out]; rfl, HE.out.2.2⟩
  have F0 : Hid (scan (cellF S.c) S.nc = 0) := z0
  have G0 : Hid (¬ scan (cellF S.c) S.nc ≠ 0) := fun h => h z0
  clear z0
  by_cases z0 : scan (lockF S.l) S.nl = 0
  case neg =>
    obtain ⟨f, hf⟩ : ∃ f, scan (lockF S.l) S.nl = f := ⟨_, rfl⟩
    have E : Hid (storeF S = f) := by unfold Hid storeF; rw [if_neg HM.out, if_neg G0.out, if_pos z0]; exact hf
    have hfn : (f == 0) = false := beq_eq_false_iff_ne.2 (by rw [← hf]; exact z0)
    have F1 : Hid (scan (lockF S.l) S.nl = f) := hf
    clear hf z0
    go_enter Tryz.func110, Tryz.ntmps110
    go_wp2_with fail
    refine (cellsFault_is S _ B 0 F0.out _ HE.out.2.1.1 hc.out.1).mono ?_
    rintro e w1 ⟨rfl, q1⟩
    have HE : Hid (BoxEnv w B S (.slice a0 S.nc c0) (.slice a1 S.nl c1) (.slice a2 S.nw c2) w1) := HE.out.later q1
    have p0 := HE.out.1.1.1
    have p1 := HE.out.1.1.2.1
    have p2 := HE.out.1.1.2.2
    clear q1
    go_wp2_with fail
    refine (locksFault_is S _ B f F1.out _ HE.out.2.1.2.1 hc.out.2.1).mono ?_
    rintro e w1 ⟨rfl, q1⟩
    have HE : Hid (BoxEnv w B S (.slice a0 S.nc c0) (.slice a1 S.nl c1) (.slice a2 S.nw c2) w1) := HE.out.later q1
    have p0 := HE.out.1.1.1
    have p1 := HE.out.1.1.2.1
    have p2 := HE.out.1.1.2.2
    clear q1
    go_wp2_with fail
    go_wp2
    go_ret
    exact ⟨by rw [E.out]; rfl, HE.out.2.2⟩
  have F1 : Hid (scan (lockF S.l) S.nl = 0) := z0
  have G1 : Hid (¬ scan (lockF S.l) S.nl ≠ 0) := fun h => h z0
  clear z0
  by_cases z0 : scan (writeF S.k) S.nw = 0
  case neg =>
    obtain ⟨f, hf⟩ : ∃ f, scan (writeF S.k) S.nw = f := ⟨_, rfl⟩
    have E : Hid (storeF S = f) := by unfold Hid storeF; rw [if_neg HM.out, if_neg G0.out, if_neg G1.out, if_pos z0]; exact hf
    have hfn : (f == 0) = false := beq_eq_false_iff_ne.2 (by rw [← hf]; exact z0)
    have F2 : Hid (scan (writeF S.k) S.nw = f) := hf
    clear hf z0
    go_enter Tryz.func110, Tryz.ntmps110
    go_wp2_with fail
    refine (cellsFault_is S _ B 0 F0.out _ HE.out.2.1.1 hc.out.1).mono ?_
    rintro e w1 ⟨rfl, q1⟩
    have HE : Hid (BoxEnv w B S (.slice a0 S.nc c0) (.slice a1 S.nl c1) (.slice a2 S.nw c2) w1) := HE.out.later q1
    have p0 := HE.out.1.1.1
    have p1 := HE.out.1.1.2.1
    have p2 := HE.out.1.1.2.2
    clear q1
    go_wp2_with fail
    refine (locksFault_is S _ B 0 F1.out _ HE.out.2.1.2.1 hc.out.2.1).mono ?_
    rintro e w1 ⟨rfl, q1⟩
    have HE : Hid (BoxEnv w B S (.slice a0 S.nc c0) (.slice a1 S.nl c1) (.slice a2 S.nw c2) w1) := HE.out.later q1
    have p0 := HE.out.1.1.1
    have p1 := HE.out.1.1.2.1
    have p2 := HE.out.1.1.2.2
    clear q1
    go_wp2_with fail
    refine (writesFault_is S _ B f F2.out _ HE.out.2.1.2.2 hc.out.2.2).mono ?_
    rintro e w1 ⟨rfl, q1⟩
    have HE : Hid (BoxEnv w B S (.slice a0 S.nc c0) (.slice a1 S.nl c1) (.slice a2 S.nw c2) w1) := HE.out.later q1
    have p0 := HE.out.1.1.1
    have p1 := HE.out.1.1.2.1
    have p2 := HE.out.1.1.2.2
    clear q1
    go_wp2_with fail
    go_wp2
    go_ret
    exact ⟨by rw [E.out]; rfl, HE.out.2.2⟩
  have F2 : Hid (scan (writeF S.k) S.nw = 0) := z0
  have G2 : Hid (¬ scan (writeF S.k) S.nw ≠ 0) := fun h => h z0
  clear z0
  by_cases y0 : needs S
  case neg =>
    have E : Hid (storeF S = 4) := by unfold Hid storeF; rw [if_neg HM.out, if_neg G0.out, if_neg G1.out, if_neg G2.out, if_pos y0]
    have Y : Hid (false = true ↔ needs S) := ⟨fun h => absurd h (by decide), fun h => absurd h y0⟩
    clear y0
    go_enter Tryz.func110, Tryz.ntmps110
    go_wp2_with fail
    refine (cellsFault_is S _ B 0 F0.out _ HE.out.2.1.1 hc.out.1).mono ?_
    rintro e w1 ⟨rfl, q1⟩
    have HE : Hid (BoxEnv w B S (.slice a0 S.nc c0) (.slice a1 S.nl c1) (.slice a2 S.nw c2) w1) := HE.out.later q1
    have p0 := HE.out.1.1.1
    have p1 := HE.out.1.1.2.1
    have p2 := HE.out.1.1.2.2
    clear q1
    go_wp2_with fail
    refine (locksFault_is S _ B 0 F1.out _ HE.out.2.1.2.1 hc.out.2.1).mono ?_
    rintro e w1 ⟨rfl, q1⟩
    have HE : Hid (BoxEnv w B S (.slice a0 S.nc c0) (.slice a1 S.nl c1) (.slice a2 S.nw c2) w1) := HE.out.later q1
    have p0 := HE.out.1.1.1
    have p1 := HE.out.1.1.2.1
    have p2 := HE.out.1.1.2.2
    clear q1
    go_wp2_with fail
    refine (writesFault_is S _ B 0 F2.out _ HE.out.2.1.2.2 hc.out.2.2).mono ?_
    rintro e w1 ⟨rfl, q1⟩
    have HE : Hid (BoxEnv w B S (.slice a0 S.nc c0) (.slice a1 S.nl c1) (.slice a2 S.nw c2) w1) := HE.out.later q1
    have p0 := HE.out.1.1.1
    have p1 := HE.out.1.1.2.1
    have p2 := HE.out.1.1.2.2
    clear q1
    go_wp2_with fail
    refine (putsHaveCells_any S B _ _ _ false _ HE.out.2.1 hc.out.1 hc.out.2.1 hc.out.2.2 F0.out F1.out F2.out Y.out).mono ?_
    rintro e w1 ⟨rfl, q1⟩
    have HE : Hid (BoxEnv w B S (.slice a0 S.nc c0) (.slice a1 S.nl c1) (.slice a2 S.nw c2) w1) := HE.out.later q1
    have p0 := HE.out.1.1.1
    have p1 := HE.out.1.1.2.1
    have p2 := HE.out.1.1.2.2
    clear q1
    go_wp2_with fail
    go_wp2
    go_ret
    exact ⟨by rw [E.out]; rfl, HE.out.2.2⟩
  have Y : Hid (needs S) := y0
  have G3 : Hid (¬ ¬ needs S) := fun h => h y0
  clear y0
  by_cases y0 : once S
  case neg =>
    have E : Hid (storeF S = 6) := by unfold Hid storeF; rw [if_neg HM.out, if_neg G0.out, if_neg G1.out, if_neg G2.out, if_neg G3.out, if_pos y0]
    have Z : Hid (false = true ↔ once S) := ⟨fun h => absurd h (by decide), fun h => absurd h y0⟩
    clear y0
    go_enter Tryz.func110, Tryz.ntmps110
    go_wp2_with fail
    refine (cellsFault_is S _ B 0 F0.out _ HE.out.2.1.1 hc.out.1).mono ?_
    rintro e w1 ⟨rfl, q1⟩
    have HE : Hid (BoxEnv w B S (.slice a0 S.nc c0) (.slice a1 S.nl c1) (.slice a2 S.nw c2) w1) := HE.out.later q1
    have p0 := HE.out.1.1.1
    have p1 := HE.out.1.1.2.1
    have p2 := HE.out.1.1.2.2
    clear q1
    go_wp2_with fail
    refine (locksFault_is S _ B 0 F1.out _ HE.out.2.1.2.1 hc.out.2.1).mono ?_
    rintro e w1 ⟨rfl, q1⟩
    have HE : Hid (BoxEnv w B S (.slice a0 S.nc c0) (.slice a1 S.nl c1) (.slice a2 S.nw c2) w1) := HE.out.later q1
    have p0 := HE.out.1.1.1
    have p1 := HE.out.1.1.2.1
    have p2 := HE.out.1.1.2.2
    clear q1
    go_wp2_with fail
    refine (writesFault_is S _ B 0 F2.out _ HE.out.2.1.2.2 hc.out.2.2).mono ?_
    rintro e w1 ⟨rfl, q1⟩
    have HE : Hid (BoxEnv w B S (.slice a0 S.nc c0) (.slice a1 S.nl c1) (.slice a2 S.nw c2) w1) := HE.out.later q1
    have p0 := HE.out.1.1.1
    have p1 := HE.out.1.1.2.1
    have p2 := HE.out.1.1.2.2
    clear q1
    go_wp2_with fail
    refine (putsHaveCells_any S B _ _ _ true _ HE.out.2.1 hc.out.1 hc.out.2.1 hc.out.2.2 F0.out F1.out F2.out ⟨fun _ => Y.out, fun _ => rfl⟩).mono ?_
    rintro e w1 ⟨rfl, q1⟩
    have HE : Hid (BoxEnv w B S (.slice a0 S.nc c0) (.slice a1 S.nl c1) (.slice a2 S.nw c2) w1) := HE.out.later q1
    have p0 := HE.out.1.1.1
    have p1 := HE.out.1.1.2.1
    have p2 := HE.out.1.1.2.2
    clear q1
    go_wp2_with fail
    refine (startsDiffer_any S B _ _ _ false _ HE.out.2.1 hc.out.2.1 hc.out.2.2 F1.out F2.out Z.out).mono ?_
    rintro e w1 ⟨rfl, q1⟩
    have HE : Hid (BoxEnv w B S (.slice a0 S.nc c0) (.slice a1 S.nl c1) (.slice a2 S.nw c2) w1) := HE.out.later q1
    have p0 := HE.out.1.1.1
    have p1 := HE.out.1.1.2.1
    have p2 := HE.out.1.1.2.2
    clear q1
    go_wp2_with fail
    go_wp2
    go_ret
    exact ⟨by rw [E.out]; rfl, HE.out.2.2⟩
  have E : Hid (storeF S = 0) := by unfold Hid storeF; rw [if_neg HM.out, if_neg G0.out, if_neg G1.out, if_neg G2.out, if_neg G3.out, if_neg (fun h => h y0)]
  have Z : Hid (once S) := y0
  clear y0
  go_enter Tryz.func110, Tryz.ntmps110
  go_wp2_with fail
  refine (cellsFault_is S _ B 0 F0.out _ HE.out.2.1.1 hc.out.1).mono ?_
  rintro e w1 ⟨rfl, q1⟩
  have HE : Hid (BoxEnv w B S (.slice a0 S.nc c0) (.slice a1 S.nl c1) (.slice a2 S.nw c2) w1) := HE.out.later q1
  have p0 := HE.out.1.1.1
  have p1 := HE.out.1.1.2.1
  have p2 := HE.out.1.1.2.2
  clear q1
  go_wp2_with fail
  refine (locksFault_is S _ B 0 F1.out _ HE.out.2.1.2.1 hc.out.2.1).mono ?_
  rintro e w1 ⟨rfl, q1⟩
  have HE : Hid (BoxEnv w B S (.slice a0 S.nc c0) (.slice a1 S.nl c1) (.slice a2 S.nw c2) w1) := HE.out.later q1
  have p0 := HE.out.1.1.1
  have p1 := HE.out.1.1.2.1
  have p2 := HE.out.1.1.2.2
  clear q1
  go_wp2_with fail
  refine (writesFault_is S _ B 0 F2.out _ HE.out.2.1.2.2 hc.out.2.2).mono ?_
  rintro e w1 ⟨rfl, q1⟩
  have HE : Hid (BoxEnv w B S (.slice a0 S.nc c0) (.slice a1 S.nl c1) (.slice a2 S.nw c2) w1) := HE.out.later q1
  have p0 := HE.out.1.1.1
  have p1 := HE.out.1.1.2.1
  have p2 := HE.out.1.1.2.2
  clear q1
  go_wp2_with fail
  refine (putsHaveCells_any S B _ _ _ true _ HE.out.2.1 hc.out.1 hc.out.2.1 hc.out.2.2 F0.out F1.out F2.out ⟨fun _ => Y.out, fun _ => rfl⟩).mono ?_
  rintro e w1 ⟨rfl, q1⟩
  have HE : Hid (BoxEnv w B S (.slice a0 S.nc c0) (.slice a1 S.nl c1) (.slice a2 S.nw c2) w1) := HE.out.later q1
  have p0 := HE.out.1.1.1
  have p1 := HE.out.1.1.2.1
  have p2 := HE.out.1.1.2.2
  clear q1
  go_wp2_with fail
  refine (startsDiffer_any S B _ _ _ true _ HE.out.2.1 hc.out.2.1 hc.out.2.2 F1.out F2.out ⟨fun _ => Z.out, fun _ => rfl⟩).mono ?_
  rintro e w1 ⟨rfl, q1⟩
  have HE : Hid (BoxEnv w B S (.slice a0 S.nc c0) (.slice a1 S.nl c1) (.slice a2 S.nw c2) w1) := HE.out.later q1
  have p0 := HE.out.1.1.1
  have p1 := HE.out.1.1.2.1
  have p2 := HE.out.1.1.2.2
  clear q1
  go_wp2_with fail
  go_wp2
  go_ret
  exact ⟨by rw [E.out]; rfl, HE.out.2.2⟩
end Go.Proofs.YtphfiojhpfdpdaaGreat

namespace Go.Proofs.YtphfiojhpfdpdaaGreat
section
open Go.RowKit
/-- The call's blocks: the groups that it was given. -/
def CallG (w : World) (nr : Nat) (F : Nat → Int) (n : Nat) (S : Nat → Sto) (V : Nat → Nat → Value) (B : Nat) (vr vs : Value) (x : World) : Prop := Blk2 x w.heap.size vr vs ∧ Grs x B nr F n S V vr vs ∧ Below w.heap.size w x
theorem CallG.new {w : World} {nr : Nat} {F : Nat → Int} {n : Nat} {S : Nat → Sto} {V : Nat → Nat → Value} {B : Nat} {vr vs : Value} (h : Grs w B nr F n S V vr vs) (t : TypeId) : CallG w nr F n S V B vr vs (w.alloc (.cells #[vr, vs] t)) := ⟨Blk2.new _ _ _ _, h.alloc _, below_alloc _ _⟩
theorem CallG.later {w x x' : World} {nr : Nat} {F : Nat → Int} {n : Nat} {S : Nat → Sto} {V : Nat → Nat → Value} {B : Nat} {vr vs : Value} (h : CallG w nr F n S V B vr vs x) (hb : Below x.heap.size x x') : CallG w nr F n S V B vr vs x' := ⟨h.1.later hb, h.2.1.later hb, h.2.2.trans (hb.mono h.2.2.size)⟩
def RngE7 (w : World) (gr oR k : Nat) (fr tto ep : Int) (a0 : Option Addr) (n c0 : Nat) (q : Nat) (s0 s1 s2 : Value) (x : World) : Prop :=
  Below w.heap.size w x ∧ x.cell? ⟨w.heap.size, 0, none⟩ = some (.slice a0 n c0) ∧ (x.cell? ⟨gr, oR + k * 3, none⟩ = some (.int .i64 fr) ∧ x.cell? ⟨gr, oR + k * 3 + 1, none⟩ = some (.int .i64 tto) ∧ x.cell? ⟨gr, oR + k * 3 + 2, none⟩ = some (.int .i64 ep)) ∧ x.cell? ⟨q, 0, none⟩ = some s0 ∧ x.cell? ⟨q, 1, none⟩ = some s1 ∧ x.cell? ⟨q, 2, none⟩ = some s2
set_option maxRecDepth 100000 in
set_option maxHeartbeats 8000000 in
theorem implGroupsFault_any (nr : Nat) (F : Nat → Int) (n : Nat) (S : Nat → Sto) (V : Nat → Nat → Value) (vr vs : Value) (B : Nat) (w : World) (h : Grs w B nr F n S V vr vs) (hr : nr ≤ 9223372036854775807) (hn : n ≤ 9223372036854775807) :
    Calls Tryz.prog 80 #[.agg #[vr, vs]] w fun e w' => e = .returned (.int .i64 (groupsF nr F n S)) ∧ Below w.heap.size w w' := by
  obtain ⟨a0, c0, a1, c1, rfl, rfl⟩ := h.form
  have H : Hid (CallG w nr F n S V B (.slice a0 nr c0) (.slice a1 n c1) (w.alloc (.cells #[.slice a0 nr c0, .slice a1 n c1] 36))) := CallG.new h _
  clear h
  obtain ⟨⟨p0, p1⟩, _⟩ := H.out.1
  obtain ⟨f, hf⟩ : ∃ f, rangesF nr F = f := ⟨_, rfl⟩
  have HF : Hid (rangesF nr F = f) := hf
  go_enter Tryz.func80, Tryz.ntmps80
  go_wp2_with fail
  refine (implRanges_any _ B nr F _ H.out.2.1.1 hr).mono ?_
  rw [hf]
  rintro e w1 ⟨rfl, q1⟩
  have H1 : Hid (CallG w nr F n S V B (.slice a0 nr c0) (.slice a1 n c1) w1) := H.out.later q1
  clear q1 hf p0 p1 H
  by_cases hz : f = 0
  case neg =>
    have d : (f == 0) = false := beq_eq_false_iff_ne.2 hz
    have d' : (f != 0) = true := bne_iff_ne.2 hz
    have E : Hid (groupsF nr F n S = f) := by unfold Hid groupsF; rw [HF.out, if_pos hz]
    clear hz HF
    go_wp2
    go_ret
    exact ⟨by rw [E.out]; rfl, H1.out.2.2⟩
  subst hz
  have G : Hid (Good nr F) := good_of HF.out
  obtain ⟨⟨p0, p1⟩, _⟩ := H1.out.1
  by_cases hnn : n = nr
  case neg =>
    have d : ((n : Int) != (nr : Int)) = true := bne_iff_ne.2 (by omega)
    have E : Hid (groupsF nr F n S = 1) := by unfold Hid groupsF; rw [HF.out, if_neg (by decide), if_pos hnn]
    clear HF hnn
    go_wp2
    go_ret
    exact ⟨by rw [E.out]; rfl, H1.out.2.2⟩
  have HG : Hid (groupsF nr F n S = if scan (oneF F S) n ≠ 0 then scan (oneF F S) n else if fullG n S then 2 else 0) := by unfold Hid groupsF; rw [HF.out, if_neg (by decide), if_neg (fun q => q hnn)]
  have hn6 : n ≤ 6 := by have := G.out.n6; omega
  subst hnn
  clear HF
  go_wp2
  clear p0 p1
  go_loopw [24] (fun i wr => ∃ k : Nat, k ≤ n ∧ i = .int .i64 k ∧ Hid (scan (oneF F S) k = 0) ∧ Hid (CallG w n F n S V B (.slice a0 n c0) (.slice a1 n c1) wr)) (fun i _ => n - (intOf i).toNat)
  case atStart => exact ⟨0, Nat.zero_le _, rfl, rfl, H1⟩
  case round =>
    obtain ⟨k, hk, rfl, HS, HL⟩ := hrel
    obtain ⟨⟨p0, p1⟩, _⟩ := HL.out.1
    by_cases hlt : k < n
    · obtain ⟨g, o, rfl, _, hg, ⟨b0, b1, b2⟩, sk⟩ := HL.out.2.1.2.at hlt
      obtain ⟨gr, oR, rfl, _, hgr, t0, t1, t2⟩ := HL.out.2.1.1.at3 hlt
      obtain ⟨i0', d0, i1', d1, i2', d2, e0, e1, e2⟩ := sk.form
      obtain ⟨n0, hn0⟩ : ∃ x, (S k).nc = x := ⟨_, rfl⟩
      obtain ⟨n1, hn1⟩ : ∃ x, (S k).nl = x := ⟨_, rfl⟩
      obtain ⟨n2, hn2⟩ : ∃ x, (S k).nw = x := ⟨_, rfl⟩
      rw [e0, hn0] at b0
      rw [e1, hn1] at b1
      rw [e2, hn2] at b2
      rw [e0, e1, e2, hn0, hn1, hn2] at sk
      obtain ⟨fs, hfs⟩ : ∃ x, storeF (S k) = x := ⟨_, rfl⟩
      have HFS : Hid (storeF (S k) = fs) := hfs
      have LS : Hid (St (wr.alloc (.cells #[.slice i0' n0 d0, .slice i1' n1 d1, .slice i2' n2 d2] 149)) B (S k) (.slice i0' n0 d0) (.slice i1' n1 d1) (.slice i2' n2 d2)) := sk.alloc _
      have LQ : Hid (Blk3 (wr.alloc (.cells #[.slice i0' n0 d0, .slice i1' n1 d1, .slice i2' n2 d2] 149)) wr.heap.size (.slice i0' n0 d0) (.slice i1' n1 d1) (.slice i2' n2 d2)) := Blk3.new _ _ _ _ _
      have HL1 : Hid (CallG w n F n S V B (.slice (some ⟨gr, oR, none⟩) n c0) (.slice (some ⟨g, o, none⟩) n c1) (wr.alloc (.cells #[.slice i0' n0 d0, .slice i1' n1 d1, .slice i2' n2 d2] 149))) := HL.out.later (below_alloc _ _)
      clear sk e0 e1 e2 hn0 hn1 hn2 t0 t1 t2 HL
      go_wp2_with fail
      generalize wr.alloc (.cells #[.slice i0' n0 d0, .slice i1' n1 d1, .slice i2' n2 d2] 149) = w2 at LS LQ HL1 ⊢
      generalize wr.heap.size = q at LQ ⊢
      clear b0 b1 b2 p0 p1
      refine (implFault_any (S k) _ _ _ B _ LS.out).mono ?_
      rw [hfs]
      rintro e w3 ⟨rfl, q3⟩
      have HL3 : Hid (CallG w n F n S V B (.slice (some ⟨gr, oR, none⟩) n c0) (.slice (some ⟨g, o, none⟩) n c1) w3) := HL1.out.later q3
      have LQ3 : Hid (Blk3 w3 q (.slice i0' n0 d0) (.slice i1' n1 d1) (.slice i2' n2 d2)) := LQ.out.later q3
      have LS3 : Hid (St w3 B (S k) (.slice i0' n0 d0) (.slice i1' n1 d1) (.slice i2' n2 d2)) := LS.out.later q3
      clear q3 hfs HL1 LQ LS
      by_cases hz : fs = 0
      case neg =>
        have d : (fs == 0) = false := beq_eq_false_iff_ne.2 hz
        have d' : (fs != 0) = true := bne_iff_ne.2 hz
        have E : Hid (groupsF n F n S = fs) := by
          have h1 : oneF F S k = fs := by unfold oneF; rw [HFS.out, if_pos hz]
          have h2 : scan (oneF F S) n = fs := (scan_stop HS.out (by rw [h1]; exact hz) hlt).trans h1
          unfold Hid
          rw [HG.out, h2, if_pos hz]
        clear hz HFS HG HS
        go_wp2
        go_ret
        exact ⟨by rw [E.out]; rfl, HL3.out.2.2⟩
      subst hz
      obtain ⟨gr', oR', he, _, hgr3, t0, t1, t2⟩ := HL3.out.2.1.1.at3 hlt
      simp only [Option.some.injEq, Addr.mk.injEq, and_true] at he
      obtain ⟨rfl, rfl⟩ := he
      obtain ⟨fr, hfr⟩ : ∃ x, F (k * 3) = x := ⟨_, rfl⟩
      obtain ⟨tto, hto⟩ : ∃ x, F (k * 3 + 1) = x := ⟨_, rfl⟩
      obtain ⟨ep, hep⟩ : ∃ x, F (k * 3 + 2) = x := ⟨_, rfl⟩
      rw [hfr] at t0
      rw [hto] at t1
      rw [hep] at t2
      have HFT : Hid (F (k * 3) = fr ∧ F (k * 3 + 1) = tto) := ⟨hfr, hto⟩
      clear hfr hto hep
      have Z := storeF_zero HFS.out
      have HZ : Hid ((S k).nc ≤ 200 ∧ (S k).nl ≤ 200 ∧ (S k).nw ≤ 200) := Z.1
      have RE : Hid (RngE7 w gr oR k fr tto ep (some ⟨gr, oR, none⟩) n c0 q (.slice i0' n0 d0) (.slice i1' n1 d1) (.slice i2' n2 d2) w3) := ⟨HL3.out.2.2, HL3.out.1.1.1, ⟨t0, t1, t2⟩, LQ3.out.1⟩
      clear Z t0 t1 t2
      go_wp2_with fail
      refine wp_region_held_drew (S := RngE7 w gr oR k fr tto ep (some ⟨gr, oR, none⟩) n c0 q (.slice i0' n0 d0) (.slice i1' n1 d1) (.slice i2' n2 d2)) (by kernel_rfl) ⟨below_dr RE.out.1 1, RE.out.2⟩ (fun hS => ?_)
      refine tkH 0 ?_ hS (fun wx hx => ?_) ?_; rotate_left
      · obtain ⟨_, hx0, ⟨hx1, hx2, hx3⟩, hx4, hx5, hx6⟩ := hx; go_simp; try with_reducible rfl
      refine tkH 1 ?_ hS (fun wx hx => ?_) ?_; rotate_left
      · obtain ⟨_, hx0, ⟨hx1, hx2, hx3⟩, hx4, hx5, hx6⟩ := hx; go_simp; try with_reducible rfl
      refine tkH 2 ?_ hS (fun wx hx => ?_) ?_; rotate_left
      · obtain ⟨_, hx0, ⟨hx1, hx2, hx3⟩, hx4, hx5, hx6⟩ := hx; go_simp; try with_reducible rfl
      refine tkH 3 ?_ hS (fun wx hx => ?_) ?_; rotate_left
      · obtain ⟨_, hx0, ⟨hx1, hx2, hx3⟩, hx4, hx5, hx6⟩ := hx; go_simp; try with_reducible rfl
      refine tkH 4 ?_ hS (fun wx hx => ?_) ?_; rotate_left
      · obtain ⟨_, hx0, ⟨hx1, hx2, hx3⟩, hx4, hx5, hx6⟩ := hx; go_simp; try with_reducible rfl
      refine tkH 5 ?_ hS (fun wx hx => ?_) ?_; rotate_left
      · obtain ⟨_, hx0, ⟨hx1, hx2, hx3⟩, hx4, hx5, hx6⟩ := hx; go_simp; try with_reducible rfl
      refine rdH 6 (fun K hK => ?_)
      go_simp
      go_wp2_with fail
      refine (hasStray_any (S k) _ _ _ fr tto ep B _ (LS3.out.later (below_dr (Below.refl _ _) 1)) HZ.out).mono ?_
      by_cases hst : strayS (S k) fr tto
      · rw [decide_eq_true hst]
        rintro e w4 ⟨rfl, q4⟩
        have E : Hid (groupsF n F n S = 3) := by
          have h1 : oneF F S k = 3 := by unfold oneF; rw [HFS.out, if_neg (by decide), HFT.out.1, HFT.out.2, if_pos hst]
          have h2 : scan (oneF F S) n = 3 := (scan_stop HS.out (by rw [h1]; decide) hlt).trans h1
          unfold Hid
          rw [HG.out, h2, if_pos (by decide)]
        have q4' : Below w3.heap.size w3 w4 := ⟨q4.os, q4.tape, q4.output, q4.size, q4.block⟩
        have HL4 : Hid (CallG w n F n S V B (.slice (some ⟨gr, oR, none⟩) n c0) (.slice (some ⟨g, o, none⟩) n c1) w4) := HL3.out.later q4'
        have hS' : RngE7 w gr oR k fr tto ep (some ⟨gr, oR, none⟩) n c0 q (.slice i0' n0 d0) (.slice i1' n1 d1) (.slice i2' n2 d2) w4 := ⟨HL4.out.2.2, HL4.out.1.1.1, ⟨(q4'.cell (p := ⟨gr, oR + k * 3, none⟩) hgr3).trans hS.2.2.1.1, (q4'.cell (p := ⟨gr, oR + k * 3 + 1, none⟩) hgr3).trans hS.2.2.1.2.1, (q4'.cell (p := ⟨gr, oR + k * 3 + 2, none⟩) hgr3).trans hS.2.2.1.2.2⟩, (LQ3.out.later q4').1⟩
        clear q4 q4' hst HFS HG HS
        go_wp2_with fail
        refine hK.out _ _ hS' (fun hS => ?_)
        clear hK K hS'
        refine wpAnyH_done (by kernel_rfl) ?_ _
        clear hS
        go_simp
        go_wp2
        go_ret
        exact ⟨by rw [E.out]; rfl, HL4.out.2.2⟩
      · rw [decide_eq_false hst]
        rintro e w4 ⟨rfl, q4⟩
        have HS1 : Hid (scan (oneF F S) (k + 1) = 0) := scan_go HS.out (by unfold oneF; rw [HFS.out, if_neg (by decide), HFT.out.1, HFT.out.2, if_neg hst])
        have q4' : Below w3.heap.size w3 w4 := ⟨q4.os, q4.tape, q4.output, q4.size, q4.block⟩
        have HL4 : Hid (CallG w n F n S V B (.slice (some ⟨gr, oR, none⟩) n c0) (.slice (some ⟨g, o, none⟩) n c1) w4) := HL3.out.later q4'
        have hS' : RngE7 w gr oR k fr tto ep (some ⟨gr, oR, none⟩) n c0 q (.slice i0' n0 d0) (.slice i1' n1 d1) (.slice i2' n2 d2) w4 := ⟨HL4.out.2.2, HL4.out.1.1.1, ⟨(q4'.cell (p := ⟨gr, oR + k * 3, none⟩) hgr3).trans hS.2.2.1.1, (q4'.cell (p := ⟨gr, oR + k * 3 + 1, none⟩) hgr3).trans hS.2.2.1.2.1, (q4'.cell (p := ⟨gr, oR + k * 3 + 2, none⟩) hgr3).trans hS.2.2.1.2.2⟩, (LQ3.out.later q4').1⟩
        clear q4 q4' hst HFS HS
        go_wp2_with fail
        refine hK.out _ _ hS' (fun hS => ?_)
        clear hK K hS'
        refine wpAnyH_done (by kernel_rfl) ?_ _
        clear hS
        go_simp
        go_wp2
        go_roundw
        case rel => exact ⟨k + 1, by omega, by go_num, HS1, HL4⟩
        case measure => simp [intOf]; omega
    · obtain rfl : k = n := by omega
      have HSS : Hid (∀ i, i < k → (S i).nc ≤ 200 ∧ (S i).nl ≤ 200 ∧ (S i).nw ≤ 200) := fun i hi => by
        have h1 := scan_zero HS.out i hi
        unfold oneF at h1
        split at h1
        · rename_i q; exact absurd h1 q
        · rename_i q; exact (storeF_zero (Classical.not_not.1 q)).1
      have E : Hid (groupsF k F k S = if fullG k S then 2 else 0) := by unfold Hid; rw [HG.out, HS.out, if_neg (by decide)]
      clear HS HG hlt
      go_wp2_with fail
      refine (together_any k S V _ B _ HL.out.2.1.2 hn6 HSS.out).mono ?_
      rintro e w4 ⟨x0, y0, x1, y1, x2, y2, rfl, _, q4⟩
      obtain ⟨m0, hm0⟩ : ∃ x, (unionS k S).nc = x := ⟨_, rfl⟩
      obtain ⟨m1, hm1⟩ : ∃ x, (unionS k S).nl = x := ⟨_, rfl⟩
      obtain ⟨m2, hm2⟩ : ∃ x, (unionS k S).nw = x := ⟨_, rfl⟩
      rw [hm0, hm1, hm2]
      have HFU : Hid (fullG k S ↔ (200 < m0 ∨ 200 < m1 ∨ 200 < m2)) := by rw [← hm0, ← hm1, ← hm2]; exact Iff.rfl
      have B4 : Below w.heap.size w w4 := HL.out.2.2.trans (q4.mono HL.out.2.2.size)
      have B5 : Hid (Below w.heap.size w (w4.alloc (.cells #[.slice x0 m0 y0, .slice x1 m1 y1, .slice x2 m2 y2] 149)) ∧ Blk3 (w4.alloc (.cells #[.slice x0 m0 y0, .slice x1 m1 y1, .slice x2 m2 y2] 149)) w4.heap.size (.slice x0 m0 y0) (.slice x1 m1 y1) (.slice x2 m2 y2)) := ⟨B4.trans ((below_alloc _ _).mono B4.size), Blk3.new _ _ _ _ _⟩
      clear q4 hm0 hm1 hm2 B4 p0 p1 HSS
      obtain ⟨⟨z0, z1, z2⟩, _⟩ := B5.out.2
      by_cases r0 : 200 < m0
      · have d : decide ((200 : Int) < (m0 : Int)) = true := decide_eq_true (by omega)
        have E2 : Hid (groupsF k F k S = 2) := by unfold Hid; rw [E.out, if_pos (HFU.out.2 (Or.inl r0))]
        clear r0 HFU E
        go_wp2
        go_ret
        exact ⟨by rw [E2.out]; rfl, B5.out.1⟩
      have d0 : decide ((200 : Int) < (m0 : Int)) = false := decide_eq_false (by omega)
      by_cases r1 : 200 < m1
      · have d : decide ((200 : Int) < (m1 : Int)) = true := decide_eq_true (by omega)
        have E2 : Hid (groupsF k F k S = 2) := by unfold Hid; rw [E.out, if_pos (HFU.out.2 (Or.inr (Or.inl r1)))]
        clear r0 r1 HFU E
        go_wp2
        go_ret
        exact ⟨by rw [E2.out]; rfl, B5.out.1⟩
      have d1 : decide ((200 : Int) < (m1 : Int)) = false := decide_eq_false (by omega)
      by_cases r2 : 200 < m2
      · have d : decide ((200 : Int) < (m2 : Int)) = true := decide_eq_true (by omega)
        have E2 : Hid (groupsF k F k S = 2) := by unfold Hid; rw [E.out, if_pos (HFU.out.2 (Or.inr (Or.inr r2)))]
        clear r0 r1 r2 HFU E
        go_wp2
        go_ret
        exact ⟨by rw [E2.out]; rfl, B5.out.1⟩
      have d2 : decide ((200 : Int) < (m2 : Int)) = false := decide_eq_false (by omega)
      have E2 : Hid (groupsF k F k S = 0) := by unfold Hid; rw [E.out, if_neg (fun q => by have := HFU.out.1 q; omega)]
      clear r0 r1 r2 HFU E
      go_wp2
      go_ret
      exact ⟨by rw [E2.out]; rfl, B5.out.1⟩
end

section
open Go.RowKit
section
end

section
open Go.RowKit
theorem groupsF_zero {nr : Nat} {F : Nat → Int} {n : Nat} {S : Nat → Sto} (h : groupsF nr F n S = 0) : Good nr F ∧ n = nr ∧ (∀ i, i < n → storeF (S i) = 0 ∧ ¬ strayS (S i) (F (i * 3)) (F (i * 3 + 1))) ∧ ¬ fullG n S := by
  unfold groupsF at h
  split at h
  · rename_i q; exact absurd h q
  rename_i q1
  split at h
  · exact absurd h (by decide)
  rename_i q2
  split at h
  · rename_i q; exact absurd h q
  rename_i q3
  split at h
  · exact absurd h (by decide)
  rename_i q4
  refine ⟨good_of (Classical.not_not.1 q1), Classical.not_not.1 q2, fun i hi => ?_, q4⟩
  have h1 := scan_zero (Classical.not_not.1 q3) i hi
  unfold oneF at h1
  split at h1
  · rename_i q; exact absurd h1 q
  rename_i q5
  split at h1
  · exact absurd h1 (by decide)
  rename_i q6
  exact ⟨Classical.not_not.1 q5, q6⟩
end
end
end Go.Proofs.YtphfiojhpfdpdaaGreat

namespace Go.Proofs.YtphfiojhpfdpdaaGreat
open Go.RowKit Go.Maps

/-- Block b holds columns: a map that has m, a row of locks, a row of writes; all of them lie from B on. -/
def Cols (x : World) (B b N : Nat) (m : Int → Int → Option Int) (nl : Nat) (l : Nat → Int) (nw : Nat) (k : Nat → Int) (g : Nat) (u1 u2 : Value) : Prop :=
  B ≤ b ∧ B ≤ g ∧ Blk3 x b (.map (some g)) u1 u2 ∧ PM x g N m ∧ Own x B 209 5 nl l u1 ∧ Own x B 211 4 nw k u2
theorem Cols.later {x x' : World} {B b N : Nat} {m : Int → Int → Option Int} {nl : Nat} {l : Nat → Int} {nw : Nat} {k : Nat → Int} {g : Nat} {u1 u2 : Value} (h : Cols x B b N m nl l nw k g u1 u2) (hb : Below x.heap.size x x') : Cols x' B b N m nl l nw k g u1 u2 :=
  ⟨h.1, h.2.1, h.2.2.1.later hb, h.2.2.2.1.later hb, h.2.2.2.2.1.later hb, h.2.2.2.2.2.later hb⟩
theorem Cols.mono {x : World} {B B' b N : Nat} {m : Int → Int → Option Int} {nl : Nat} {l : Nat → Int} {nw : Nat} {k : Nat → Int} {g : Nat} {u1 u2 : Value} (h : Cols x B b N m nl l nw k g u1 u2) (hB : B' ≤ B) : Cols x B' b N m nl l nw k g u1 u2 :=
  ⟨Nat.le_trans hB h.1, Nat.le_trans hB h.2.1, h.2.2.1, h.2.2.2.1, h.2.2.2.2.1.mono hB, h.2.2.2.2.2.mono hB⟩
/-- From place oo of block b on lie three cells, none frozen. -/
def Blk3O (x : World) (b oo : Nat) (a0 a1 a2 : Value) : Prop :=
  (x.cell? ⟨b, oo, none⟩ = some a0 ∧ x.cell? ⟨b, oo + 1, none⟩ = some a1 ∧ x.cell? ⟨b, oo + 2, none⟩ = some a2) ∧ x.frozen? ⟨b, oo, none⟩ = false ∧ x.frozen? ⟨b, oo + 1, none⟩ = false ∧ x.frozen? ⟨b, oo + 2, none⟩ = false
theorem Blk3O.kept {x x' : World} {b oo : Nat} {a0 a1 a2 : Value} (h : Blk3O x b oo a0 a1 a2) (hb : x'.heap[b]? = x.heap[b]?) : Blk3O x' b oo a0 a1 a2 := by
  obtain ⟨⟨h0, h1, h2⟩, f0, f1, f2⟩ := h
  exact ⟨⟨(World.cell?_of_block (w := x) (a := ⟨b, oo, none⟩) hb).trans h0, (World.cell?_of_block (w := x) (a := ⟨b, oo + 1, none⟩) hb).trans h1, (World.cell?_of_block (w := x) (a := ⟨b, oo + 2, none⟩) hb).trans h2⟩,
    (World.frozen?_of_block (w := x) (a := ⟨b, oo, none⟩) hb).trans f0, (World.frozen?_of_block (w := x) (a := ⟨b, oo + 1, none⟩) hb).trans f1, (World.frozen?_of_block (w := x) (a := ⟨b, oo + 2, none⟩) hb).trans f2⟩
theorem Blk3O.lt {x : World} {b oo : Nat} {a0 a1 a2 : Value} (h : Blk3O x b oo a0 a1 a2) : b < x.heap.size := World.block_lt_of_cell? x ⟨b, oo, none⟩ h.1.1
theorem Blk3O.later {x x' : World} {b oo : Nat} {a0 a1 a2 : Value} (h : Blk3O x b oo a0 a1 a2) (hb : Below x.heap.size x x') : Blk3O x' b oo a0 a1 a2 := h.kept (hb.block b h.lt)
theorem Blk3O.alloc {x : World} {b oo : Nat} {a0 a1 a2 : Value} (h : Blk3O x b oo a0 a1 a2) (o : Obj) : Blk3O (x.alloc o) b oo a0 a1 a2 := h.later (below_alloc _ _)
/-- Columns that lie from place oo of block b on. -/
def ColsO (x : World) (B b oo N : Nat) (m : Int → Int → Option Int) (nl : Nat) (l : Nat → Int) (nw : Nat) (k : Nat → Int) (g : Nat) (u1 u2 : Value) : Prop :=
  B ≤ b ∧ B ≤ g ∧ Blk3O x b oo (.map (some g)) u1 u2 ∧ PM x g N m ∧ Own x B 209 5 nl l u1 ∧ Own x B 211 4 nw k u2
theorem ColsO.later {x x' : World} {B b oo N : Nat} {m : Int → Int → Option Int} {nl : Nat} {l : Nat → Int} {nw : Nat} {k : Nat → Int} {g : Nat} {u1 u2 : Value} (h : ColsO x B b oo N m nl l nw k g u1 u2) (hb : Below x.heap.size x x') : ColsO x' B b oo N m nl l nw k g u1 u2 :=
  ⟨h.1, h.2.1, h.2.2.1.later hb, h.2.2.2.1.later hb, h.2.2.2.2.1.later hb, h.2.2.2.2.2.later hb⟩
def StoBox (w : World) (v0 v1 v2 : Value) (x : World) : Prop := Blk3 x w.heap.size v0 v1 v2 ∧ Below w.heap.size w x
theorem StoBox.later {w x x' : World} {v0 v1 v2 : Value} (h : StoBox w v0 v1 v2 x) (hb : Below x.heap.size x x') : StoBox w v0 v1 v2 x' := ⟨h.1.later hb, h.2.trans (hb.mono h.2.size)⟩
theorem cellsByPlace_ex (S : Sto) (v : Value) (B : Nat) (w : World) (h : Row w B 3 S.nc S.c v) (hn : S.nc ≤ 200) (hz : scan (cellF S.c) S.nc = 0) :
    Calls Tryz.prog 162 #[v] w fun e w' => ∃ g, e = .returned (.map (some g)) ∧ w.heap.size ≤ g ∧ PM w' g S.nc (cellM S S.nc) ∧ Below w.heap.size w w' :=
  (cellsByPlace_any S v B w h hn hz).mono fun _ _ ⟨he, hP, hb⟩ => ⟨_, he, Nat.le_refl _, hP, hb⟩
theorem own_in {w : World} {B : Nat} {e : TypeId} {m n : Nat} {F : Nat → Int} {v : Value} (h : Own w B e m n F v) : ∀ k, v.ownBlock = some k → B ≤ k ∧ k < w.heap.size := by
  intro k hk
  rcases h.2 with ⟨rfl, _⟩ | ⟨g, cap, cur, rfl, hg, hw, _⟩
  · simp [Value.ownBlock] at hk
  · simp [Value.ownBlock] at hk
    subst hk
    exact ⟨hg, (Array.getElem?_eq_some_iff.1 hw).1⟩
/-- The columns' block, the map, the two rows: all in blocks of their own. -/
def ApartC (b g : Nat) (u1 u2 : Value) : Prop := g ≠ b ∧ (∀ q, u1.ownBlock = some q → q ≠ b ∧ q ≠ g) ∧ (∀ q, u2.ownBlock = some q → q ≠ b ∧ q ≠ g) ∧ ∀ q, u1.ownBlock = some q → u2.ownBlock ≠ some q
set_option maxRecDepth 100000 in
set_option maxHeartbeats 2000000 in
theorem columnsOf_apart (S : Sto) (B : Nat) (v0 v1 v2 : Value) (w : World) (h : St w B S v0 v1 v2) (hc : S.nc ≤ 200) (hl : S.nl ≤ 200) (hk : S.nw ≤ 200) (z0 : scan (cellF S.c) S.nc = 0) :
    Calls Tryz.prog 123 #[.agg #[v0, v1, v2]] w fun e w' => ∃ b g u1 u2, e = .returned (.pointer (some ⟨b, 0, none⟩)) ∧ Cols w' w.heap.size b S.nc (cellM S S.nc) S.nl S.l S.nw S.k g u1 u2 ∧ ApartC b g u1 u2 ∧ Below w.heap.size w w' := by
  obtain ⟨a0, c0, a1, c1, a2, c2, rfl, rfl, rfl⟩ := h.form
  have H : Hid (St w B S (.slice a0 S.nc c0) (.slice a1 S.nl c1) (.slice a2 S.nw c2)) := h
  have Z0 : Hid (scan (cellF S.c) S.nc = 0) := z0
  clear h z0
  go_enter Tryz.func123, Tryz.ntmps123
  go_wp2_with fail
  have h0 : StoBox w (.slice a0 S.nc c0) (.slice a1 S.nl c1) (.slice a2 S.nw c2) (w.alloc (.cells #[.slice a0 S.nc c0, .slice a1 S.nl c1, .slice a2 S.nw c2] 149)).drew := ⟨Blk3.new w _ _ _ _, (below_alloc _ _).drew⟩
  refine wp_region_held_drew (S := StoBox w (.slice a0 S.nc c0) (.slice a1 S.nl c1) (.slice a2 S.nw c2)) (by kernel_rfl) h0 (fun hS => ?_)
  clear h0
  refine tkH 0 ?_ hS (fun wx hx => ?_) ?_; rotate_left
  · obtain ⟨⟨⟨hx0, hx1, hx2⟩, _⟩, _⟩ := hx; go_simp; try with_reducible rfl
  refine tkH 1 ?_ hS (fun wx hx => ?_) ?_; rotate_left
  · obtain ⟨⟨⟨hx0, hx1, hx2⟩, _⟩, _⟩ := hx; go_simp; try with_reducible rfl
  refine tkH 3 ?_ hS (fun wx hx => ?_) ?_; rotate_left
  · obtain ⟨⟨⟨hx0, hx1, hx2⟩, _⟩, _⟩ := hx; go_simp; try with_reducible rfl
  refine tkH 4 ?_ hS (fun wx hx => ?_) ?_; rotate_left
  · obtain ⟨⟨⟨hx0, hx1, hx2⟩, _⟩, _⟩ := hx; go_simp; try with_reducible rfl
  refine tkH 6 ?_ hS (fun wx hx => ?_) ?_; rotate_left
  · obtain ⟨⟨⟨hx0, hx1, hx2⟩, _⟩, _⟩ := hx; go_simp; try with_reducible rfl
  refine tkH 7 ?_ hS (fun wx hx => ?_) ?_; rotate_left
  · obtain ⟨⟨⟨hx0, hx1, hx2⟩, _⟩, _⟩ := hx; go_simp; try with_reducible rfl
  refine rdH 2 (fun K hK => ?_)
  go_simp
  go_wp2_with fail
  refine (cellsByPlace_ex S _ B _ (H.out.later hS.2).1 hc Z0.out).mono ?_
  rintro e w1 ⟨g, rfl, hg, HP, hb1⟩
  have P1 : Hid (w.heap.size ≤ g ∧ PM w1 g S.nc (cellM S S.nc)) := ⟨Nat.le_trans hS.2.size hg, HP⟩
  have z1 : Hid (g < w1.heap.size) := HP.lt
  have hS' := hS.later hb1
  clear hg HP hb1
  go_wp2_with fail
  refine hK.out _ _ hS' (fun hS => ?_)
  clear hK K hS'
  refine rdH 5 (fun K hK => ?_)
  go_simp
  go_wp2_with fail
  refine (cloneLocks_any S.nl S.l _ B _ (H.out.later hS.2).2.1 (by omega)).mono ?_
  rintro e w2 ⟨u1, rfl, ho, hb2⟩
  obtain ⟨b1, d1, rfl⟩ := ho.form
  have P2 : Hid ((w.heap.size ≤ g ∧ PM w2 g S.nc (cellM S S.nc)) ∧ Own w2 w.heap.size 209 5 S.nl S.l (.slice b1 S.nl d1)) := ⟨⟨P1.out.1, P1.out.2.later hb2⟩, ho.mono hS.2.size⟩
  have z12 : Hid (w1.heap.size ≤ w2.heap.size) := hb2.size
  have B2 : Hid (∀ q, (Value.slice b1 S.nl d1).ownBlock = some q → w1.heap.size ≤ q ∧ q < w2.heap.size) := fun q hq => own_in ho q hq
  have hS' := hS.later hb2
  clear ho hb2 P1
  go_wp2_with fail
  refine hK.out _ _ hS' (fun hS => ?_)
  clear hK K hS'
  refine rdH 8 (fun K hK => ?_)
  go_simp
  go_wp2_with fail
  refine (cloneWrites_any S.nw S.k _ B _ (H.out.later hS.2).2.2 (by omega)).mono ?_
  rintro e w3 ⟨u2, rfl, ho, hb3⟩
  obtain ⟨b2, d2, rfl⟩ := ho.form
  have P3 : Hid (((w.heap.size ≤ g ∧ PM w3 g S.nc (cellM S S.nc)) ∧ Own w3 w.heap.size 209 5 S.nl S.l (.slice b1 S.nl d1)) ∧ Own w3 w.heap.size 211 4 S.nw S.k (.slice b2 S.nw d2)) := ⟨⟨⟨P2.out.1.1, P2.out.1.2.later hb3⟩, P2.out.2.later hb3⟩, ho.mono hS.2.size⟩
  have B3 : Hid (∀ q, (Value.slice b2 S.nw d2).ownBlock = some q → w2.heap.size ≤ q ∧ q < w3.heap.size) := fun q hq => own_in ho q hq
  have z23 : Hid (w1.heap.size ≤ w2.heap.size ∧ w2.heap.size ≤ w3.heap.size) := ⟨z12.out, hb3.size⟩
  have hS' := hS.later hb3
  have hS3 : Hid (w.heap.size ≤ w3.heap.size) := hS'.2.size
  clear ho hb3 P2
  go_wp2_with fail
  refine hK.out _ _ hS' (fun hS => ?_)
  clear hK K hS'
  refine tkH 9 ?_ hS (fun wx hx => ?_) ?_; rotate_left
  · obtain ⟨⟨⟨hx0, hx1, hx2⟩, _⟩, _⟩ := hx; go_simp; try with_reducible rfl
  refine rdH 10 (fun K hK => ?_)
  go_simp
  refine hK.out _ _ (hS.later (below_alloc w3 _)) (fun hS => ?_)
  clear hK K
  refine tkH 11 ?_ hS (fun wx hx => ?_) ?_; rotate_left
  · obtain ⟨⟨⟨hx0, hx1, hx2⟩, _⟩, _⟩ := hx; go_simp; try with_reducible rfl
  refine wpAnyH_done (by kernel_rfl) ?_ _
  go_simp
  go_wp2
  go_ret
  exact ⟨_, g, _, _, rfl, ⟨hS3.out, P3.out.1.1.1, Blk3.new w3 _ _ _ _, P3.out.1.1.2.alloc _, P3.out.1.2.alloc _, P3.out.2.alloc _⟩, ⟨by have := z1.out; have := z23.out; omega, fun q hq => by have := B2.out q hq; have := z1.out; have := z23.out; omega, fun q hq => by have := B3.out q hq; have := z1.out; have := z23.out; omega, fun q hq e => by have := B2.out q hq; have := B3.out q e; omega⟩, hS.2⟩
end Go.Proofs.YtphfiojhpfdpdaaGreat

namespace Go.Proofs
open Go.Shelf
def Tryz.sortCell_ren : Go.Shelf.Ren := ⟨fun | 6 => 124 | 15 => 166 | 14 => 165 | 28 => 192 | 29 => 193 | 20 => 184 | 21 => 185 | 22 => 186 | 23 => 187 | 24 => 188 | 25 => 189 | 26 => 190 | 27 => 191 | 46 => 195 | 47 => 196 | 48 => 197 | 49 => 198 | 50 => 199 | 57 => 200 | n => n, fun | 22 => 145 | 24 => 202 | 25 => 204 | 3 => 3 | 39 => 241 | 0 => 0 | 53 => 267 | 55 => 269 | 4 => 4 | 46 => 260 | 45 => 259 | 50 => 264 | 5 => 5 | 9 => 9 | 66 => 271 | 70 => 275 | 76 => 277 | 77 => 278 | n => n, fun | n => n⟩
theorem Tryz.sortCell : Go.Proofs.SlLaysF0.n6 Tryz.prog Tryz.sortCell_ren := {
  mixed := by kernel_rfl
  f6 := ⟨Tryz.f124.name, by decide, Tryz.func124.trans (congrArg some (by kernel_rfl))⟩
  f14 := ⟨Tryz.f165.name, by decide, Tryz.func165.trans (congrArg some (by kernel_rfl))⟩
  f15 := Tryz.func166.trans (congrArg some (by kernel_rfl))
  f20 := ⟨Tryz.f184.name, by decide, Tryz.func184.trans (congrArg some (by kernel_rfl))⟩
  f21 := ⟨Tryz.f185.name, by decide, Tryz.func185.trans (congrArg some (by kernel_rfl))⟩
  f22 := ⟨Tryz.f186.name, by decide, Tryz.func186.trans (congrArg some (by kernel_rfl))⟩
  f23 := ⟨Tryz.f187.name, by decide, Tryz.func187.trans (congrArg some (by kernel_rfl))⟩
  f24 := ⟨Tryz.f188.name, by decide, Tryz.func188.trans (congrArg some (by kernel_rfl))⟩
  f25 := ⟨Tryz.f189.name, by decide, Tryz.func189.trans (congrArg some (by kernel_rfl))⟩
  f26 := ⟨Tryz.f190.name, by decide, Tryz.func190.trans (congrArg some (by kernel_rfl))⟩
  f27 := ⟨Tryz.f191.name, by decide, Tryz.func191.trans (congrArg some (by kernel_rfl))⟩
  f28 := Tryz.func192.trans (congrArg some (by kernel_rfl))
  f29 := Tryz.func193.trans (congrArg some (by kernel_rfl))
  f46 := ⟨Tryz.f195.name, by decide, Tryz.func195.trans (congrArg some (by kernel_rfl))⟩
  f47 := Tryz.func196.trans (congrArg some (by kernel_rfl))
  f48 := Tryz.func197.trans (congrArg some (by kernel_rfl))
  f49 := ⟨Tryz.f198.name, by decide, Tryz.func198.trans (congrArg some (by kernel_rfl))⟩
  f50 := ⟨Tryz.f199.name, by decide, Tryz.func199.trans (congrArg some (by kernel_rfl))⟩
  f57 := ⟨Tryz.f200.name, by decide, Tryz.func200.trans (congrArg some (by kernel_rfl))⟩
  t0 := Tryz.underlying0
  a0 := Tryz.isAgg0
  z0 := Tryz.sizeOf0
  v0 := Tryz.zeroValue0
  t3 := Tryz.underlying3
  a3 := Tryz.isAgg3
  z3 := Tryz.sizeOf3
  v3 := Tryz.zeroValue3
  t4 := Tryz.underlying4
  a4 := Tryz.isAgg4
  z4 := Tryz.sizeOf4
  v4 := Tryz.zeroValue4
  t5 := Tryz.underlying5
  a5 := Tryz.isAgg5
  z5 := Tryz.sizeOf5
  v5 := Tryz.zeroValue5
  t9 := Tryz.underlying9
  a9 := Tryz.isAgg9
  z9 := Tryz.sizeOf9
  v9 := Tryz.zeroValue9
  t22 := Tryz.underlying145
  a22 := Tryz.isAgg145
  z22 := Tryz.sizeOf145
  v22 := Tryz.zeroValue145
  t25 := Tryz.underlying204
  a25 := Tryz.isAgg204
  z25 := Tryz.sizeOf204
  v25 := Tryz.zeroValue204
  t39 := Tryz.underlying241
  a39 := Tryz.isAgg241
  z39 := Tryz.sizeOf241
  v39 := Tryz.zeroValue241
  t45 := Tryz.underlying259
  a45 := Tryz.isAgg259
  z45 := Tryz.sizeOf259
  v45 := Tryz.zeroValue259
  t46 := Tryz.underlying260
  a46 := Tryz.isAgg260
  z46 := Tryz.sizeOf260
  v46 := Tryz.zeroValue260
  t50 := Tryz.underlying264
  a50 := Tryz.isAgg264
  z50 := Tryz.sizeOf264
  v50 := Tryz.zeroValue264
  t53 := Tryz.underlying267
  a53 := Tryz.isAgg267
  z53 := Tryz.sizeOf267
  v53 := Tryz.zeroValue267
  t55 := Tryz.underlying269
  a55 := Tryz.isAgg269
  z55 := Tryz.sizeOf269
  v55 := Tryz.zeroValue269
  t66 := Tryz.underlying271
  a66 := Tryz.isAgg271
  z66 := Tryz.sizeOf271
  v66 := Tryz.zeroValue271
  t70 := Tryz.underlying275
  a70 := Tryz.isAgg275
  z70 := Tryz.sizeOf275
  v70 := Tryz.zeroValue275
  t76 := Tryz.underlying277
  a76 := Tryz.isAgg277
  z76 := Tryz.sizeOf277
  v76 := Tryz.zeroValue277
  t77 := Tryz.underlying278
  a77 := Tryz.isAgg278
  z77 := Tryz.sizeOf278
  v77 := Tryz.zeroValue278 }
end Go.Proofs

namespace Go.Proofs.YtphfiojhpfdpdaaGreat
section
open Go.RowKit Go.Sort Go.Shelf Go.Lib
/-- x is w behind some draws, with new blocks. -/
def Grw (w x : World) : Prop := ∃ q os, x = grow (w.drewN q) os
theorem grw_two (w : World) (o o' : Obj) : Grw w ((w.alloc o).alloc o').drew := ⟨1, #[o] ++ #[o'], by rw [← grow_grow, ← alloc_eq_grow, ← alloc_eq_grow]; rfl⟩
theorem Grw.alloc_drew {w X : World} {o : Obj} (h : Grw w X.drew) : Grw w (X.alloc o).drew := by
  obtain ⟨q, os, e⟩ := h
  exact ⟨q, os ++ #[o], by rw [← grow_grow, ← e, ← alloc_eq_grow]; rfl⟩
def Four6 (w : World) (a0 a1 b0 b1 : Int) (x : World) : Prop := Four w a0 a1 b0 b1 x ∧ Grw w x
set_option maxRecDepth 100000 in
set_option maxHeartbeats 1000000 in
theorem compareCells_lays (x0 x1 x2 y0 y1 y2 : Int) (r : Int) (hr : orOf (cmpOf x0 y0) (cmpOf x1 y1) = r) (w : World) :
    Calls Tryz.prog 125 #[.agg #[.int .i64 x0, .int .i64 x1, .int .i64 x2], .agg #[.int .i64 y0, .int .i64 y1, .int .i64 y2]] w fun e w' => e = .returned (.int .i64 r) ∧ Grw w w' := by
  obtain ⟨c0, C0⟩ : ∃ c, Hid (cmpOf x0 y0 = c) := ⟨_, rfl⟩
  obtain ⟨c1, C1⟩ : ∃ c, Hid (cmpOf x1 y1 = c) := ⟨_, rfl⟩
  have HR : Hid (orOf c0 c1 = r) := by unfold Hid; rw [← C0.out, ← C1.out]; exact hr
  clear hr
  go_enter Tryz.func125, Tryz.ntmps125
  go_wp2_with fail
  have h0 : Four6 w x0 x1 y0 y1 (((w.alloc (.cells #[.int .i64 x0, .int .i64 x1, .int .i64 x2] 202)).alloc (.cells #[.int .i64 y0, .int .i64 y1, .int .i64 y2] 202)).drew) := ⟨⟨by simp, by simp, by simp, by simp, ((below_alloc _ _).alloc (by simp) _).drew⟩, grw_two _ _ _⟩
  refine wp_region_held_drew (S := Four6 w x0 x1 y0 y1) (by kernel_rfl) h0 (fun hS => ?_)
  clear h0
  refine tkH 0 ?_ hS (fun wx hx => ?_) ?_; rotate_left
  · obtain ⟨⟨hx0, hx1, hx2, hx3, _⟩, _⟩ := hx; go_simp; try with_reducible rfl
  refine tkH 1 ?_ hS (fun wx hx => ?_) ?_; rotate_left
  · obtain ⟨⟨hx0, hx1, hx2, hx3, _⟩, _⟩ := hx; go_simp; try with_reducible rfl
  refine tkH 2 ?_ hS (fun wx hx => ?_) ?_; rotate_left
  · obtain ⟨⟨hx0, hx1, hx2, hx3, _⟩, _⟩ := hx; go_simp; try with_reducible rfl
  refine tkH 3 ?_ hS (fun wx hx => ?_) ?_; rotate_left
  · obtain ⟨⟨hx0, hx1, hx2, hx3, _⟩, _⟩ := hx; go_simp; try with_reducible rfl
  refine tkH 5 ?_ hS (fun wx hx => ?_) ?_; rotate_left
  · obtain ⟨⟨hx0, hx1, hx2, hx3, _⟩, _⟩ := hx; go_simp; try with_reducible rfl
  refine tkH 6 ?_ hS (fun wx hx => ?_) ?_; rotate_left
  · obtain ⟨⟨hx0, hx1, hx2, hx3, _⟩, _⟩ := hx; go_simp; try with_reducible rfl
  refine tkH 7 ?_ hS (fun wx hx => ?_) ?_; rotate_left
  · obtain ⟨⟨hx0, hx1, hx2, hx3, _⟩, _⟩ := hx; go_simp; try with_reducible rfl
  refine tkH 8 ?_ hS (fun wx hx => ?_) ?_; rotate_left
  · obtain ⟨⟨hx0, hx1, hx2, hx3, _⟩, _⟩ := hx; go_simp; try with_reducible rfl
  refine rdH 4 (fun K hK => ?_)
  go_simp
  go_wp2_with fail
  refine (compare_is _ _ c0 C0.out _).mono ?_
  rintro e w1 ⟨rfl, rfl⟩
  have hS' := hS
  go_wp2_with fail
  refine hK.out _ _ hS' (fun hS => ?_)
  clear hK K hS'
  refine rdH 9 (fun K hK => ?_)
  go_simp
  go_wp2_with fail
  refine (compare_is _ _ c1 C1.out _).mono ?_
  rintro e w1 ⟨rfl, rfl⟩
  have hS' := hS
  go_wp2_with fail
  refine hK.out _ _ hS' (fun hS => ?_)
  clear hK K hS'
  refine rdH 10 (fun K hK => ?_)
  go_simp
  refine hK.out _ _ ⟨hS.1.later (below_alloc_drew _ _), hS.2.alloc_drew⟩ (fun hS => ?_)
  clear hK K
  refine rdH 11 (fun K hK => ?_)
  go_simp
  go_wp2_with fail
  refine (or_is c0 c1 r _ HR.out _ (two_cells _ _ (by simp) _ _ _).1 (two_cells _ _ (by simp) _ _ _).2).mono ?_
  rintro e w1 ⟨rfl, rfl⟩
  have hS' := hS
  go_wp2_with fail
  refine hK.out _ _ hS' (fun hS => ?_)
  clear hK K hS'
  refine tkH 12 ?_ hS (fun wx hx => ?_) ?_; rotate_left
  · obtain ⟨⟨hx0, hx1, hx2, hx3, _⟩, _⟩ := hx; go_simp; try with_reducible rfl
  refine wpAnyH_done (by kernel_rfl) ?_ _
  go_simp
  go_wp2
  go_ret
  exact ⟨rfl, hS.2⟩
theorem lt_cmpOf (a b : Int) : cmpOf a b < 0 ↔ a < b := by
  unfold cmpOf
  by_cases h1 : a < b
  · simp [h1]
  · by_cases h2 : b < a <;> simp [h1, h2]
theorem cmpOf_zero (a b : Int) : cmpOf a b = 0 ↔ a = b := by
  unfold cmpOf
  by_cases h1 : a < b
  · simp [h1]; omega
  · by_cases h2 : b < a
    · simp [h1, h2]; omega
    · simp [h1, h2]; omega
/-- The order by two numbers. -/
def cf2 {α : Type} (k s : α → Int) (x y : α) : Int := orOf (cmpOf (k x) (k y)) (cmpOf (s x) (s y))
theorem lt_cf2 {α : Type} (k s : α → Int) (x y : α) : ltOf (cf2 k s) x y = decide (k x < k y ∨ k x = k y ∧ s x < s y) := by
  unfold ltOf cf2 orOf
  by_cases h : cmpOf (k x) (k y) = 0
  · rw [if_pos h]
    have := (cmpOf_zero _ _).1 h
    simp [lt_cmpOf, this]
  · rw [if_neg h]
    have : ¬ k x = k y := fun e => h ((cmpOf_zero _ _).2 e)
    simp [lt_cmpOf, this]
theorem swo_cf2 {α : Type} (k s : α → Int) : SWO (ltOf (cf2 k s)) where
  irrefl x := by rw [lt_cf2]; simp
  trans x y z h1 h2 := by rw [lt_cf2] at *; simp at *; omega
  ntrans x y z h1 h2 := by rw [lt_cf2] at *; simp at *; omega
end

section
open Go.RowKit Go.Sort Go.Shelf Go.Lib
/-- A struct of m numbers, as its cells. -/
def encM (m : Nat) (x : List Int) : List Value := (List.range m).map fun q => Value.int .i64 (x.getD q 0)
theorem encM_len (m : Nat) (x : List Int) : (encM m x).length = m := by simp [encM]
theorem encM_one (m : Nat) (x : List Int) : ∀ v ∈ encM m x, v.oneCell' = true := by
  intro v hv
  simp only [encM, List.mem_map] at hv
  obtain ⟨q, _, rfl⟩ := hv
  rfl
theorem encM_get (m : Nat) (x : List Int) (q : Nat) (hq : q < m) : (encM m x)[q]! = .int .i64 (x.getD q 0) := by
  rw [getElem!_pos _ q (by rw [encM_len]; exact hq)]
  simp [encM]
/-- The structs of a row. -/
def rowD (m n : Nat) (F : Nat → Int) : Array (List Int) := (Array.range n).map fun i => (List.range m).map fun q => F (i * m + q)
theorem rowD_size (m n : Nat) (F : Nat → Int) : (rowD m n F).size = n := by simp [rowD]
theorem rowD_get (m n : Nat) (F : Nat → Int) (i : Nat) (hi : i < n) : (rowD m n F)[i]! = (List.range m).map fun q => F (i * m + q) := by
  rw [getElem!_pos _ i (by rw [rowD_size]; exact hi)]
  simp [rowD]
/-- The numbers of a row of structs. -/
def rowF (m : Nat) (d : Array (List Int)) : Nat → Int := fun t => (d[t / m]!).getD (t % m) 0
theorem div_lt {m n t : Nat} (ht : t < n * m) : t / m < n ∧ t % m < m := by
  have hm : 0 < m := Nat.pos_of_ne_zero (fun e => by subst e; simp at ht)
  exact ⟨(Nat.div_lt_iff_lt_mul hm).2 ht, Nat.mod_lt _ hm⟩
theorem rowF_rowD (m n : Nat) (F : Nat → Int) (t : Nat) (ht : t < n * m) : rowF m (rowD m n F) t = F t := by
  obtain ⟨h1, h2⟩ := div_lt ht
  unfold rowF
  rw [rowD_get m n F _ h1]
  have : ((List.range m).map fun q => F (t / m * m + q)).getD (t % m) 0 = F (t / m * m + t % m) := by simp [h2]
  rw [this, Nat.mul_comm, Nat.div_add_mod]
theorem holds_row {w : World} {B m n blk off cap : Nat} {F : Nat → Int} (h : Row w B m n F (.slice (some ⟨blk, off, none⟩) n cap)) (hf : Free w (n * m) (.slice (some ⟨blk, off, none⟩) n cap)) : HoldsK (encM m) m w blk off (rowD m n F) := by
  intro t ht
  rw [size_flatK, rowD_size] at ht
  obtain ⟨h1, h2⟩ := div_lt ht
  rw [get_flatK _ _ _ _ (by rw [rowD_size]; exact ht), encM_get _ _ _ h2]
  have hF := rowF_rowD m n F t ht
  unfold rowF at hF
  rw [hF]
  refine ⟨?_, hf blk off n cap rfl t ht⟩
  obtain ⟨g, o, he, _, _, hc⟩ := h.at h1
  simp at he
  obtain ⟨rfl, rfl⟩ := he
  have := hc (t % m) h2
  rw [Nat.add_assoc, Nat.mul_comm (t / m) m, Nat.div_add_mod] at this
  exact this
theorem row_holds {w : World} {B m n blk off cap : Nat} {d : Array (List Int)} (hd : d.size = n) (hB : B ≤ blk) (hb : blk < w.heap.size) (h : HoldsK (encM m) m w blk off d) : Row w B m n (rowF m d) (.slice (some ⟨blk, off, none⟩) n cap) ∧ Free w (n * m) (.slice (some ⟨blk, off, none⟩) n cap) := by
  have hc : ∀ t, t < n * m → w.cell? ⟨blk, off + t, none⟩ = some (.int .i64 (rowF m d t)) ∧ w.frozen? ⟨blk, off + t, none⟩ = false := by
    intro t ht
    obtain ⟨h1, h2⟩ := div_lt ht
    have := h t (by rw [size_flatK, hd]; exact ht)
    rw [get_flatK _ _ _ _ (by rw [hd]; exact ht), encM_get _ _ _ h2] at this
    exact this
  refine ⟨⟨_, _, rfl, fun _ => ⟨blk, off, rfl, hB, hb, fun t ht => (hc t ht).1⟩⟩, ?_⟩
  intro g o n' c hv t ht
  simp only [Value.slice.injEq, Option.some.injEq, Addr.mk.injEq] at hv
  obtain ⟨⟨rfl, rfl, _⟩, _, _⟩ := hv
  exact (hc t ht).2
theorem sort_grown (enc : List Int → List Value) (k : Nat) (w : World) (blk off q : Nat) (d : Array (List Int)) (os : Array Obj) : w.grownBy (sortWorldK enc k w blk off q d os) (some blk) := by
  refine ⟨rfl, rfl, rfl, size_sortWorldK_c enc k w blk off q d os, fun i hi hne => ?_⟩
  unfold sortWorldK putRowK putRow grow
  have h1 : i < (mapBlock (Go.Sort.ahead w q) blk (putCells id off (flatK enc k d))).heap.size := by simpa [mapBlock, Go.Sort.ahead] using hi
  show ((mapBlock (Go.Sort.ahead w q) blk (putCells id off (flatK enc k d))).heap ++ os)[i]? = w.heap[i]?
  rw [Array.getElem?_append_left h1]
  simp [mapBlock, Go.Sort.ahead, Array.getElem?_modify]
  intro e
  exact absurd (by rw [e]) hne
theorem extract_all (d : Array (List Int)) (n : Nat) (h : d.size = n) : d.extract 0 n = d := by
  subst h
  simp
theorem cmpCell_lays (blk off size : Nat) (w : World) : CmpLays Tryz.prog 125 #[] (encM 3) 3 (cf2 (fun x => x.getD 0 0) (fun x => x.getD 1 0)) blk off size w :=
  fun _ _ _ _ x y => compareCells_lays (x.getD 0 0) (x.getD 1 0) (x.getD 2 0) (y.getD 0 0) (y.getD 1 0) (y.getD 2 0) _ rfl _
set_option maxHeartbeats 1000000 in
theorem sortCell_is (B n blk off cap : Nat) (F : Nat → Int) (w : World) (h : Row w B 3 n F (.slice (some ⟨blk, off, none⟩) n cap)) (hf : Free w (n * 3) (.slice (some ⟨blk, off, none⟩) n cap)) (hB : B ≤ blk) (hb : blk < w.heap.size) (hn : n ≤ 1048576) :
    Calls Tryz.prog 124 #[.slice (some ⟨blk, off, none⟩) n cap, .func (.func 125) #[] #[]] w fun e w' => e = .returned (.tuple #[]) ∧ ∃ d : Array (List Int), d.size = n ∧ (d.toList.Perm (rowD 3 n F).toList ∧ SortedIn (ltOf (cf2 (fun x => x.getD 0 0) (fun x => x.getD 1 0))) 0 n d) ∧ (Row w' B 3 n (rowF 3 d) (.slice (some ⟨blk, off, none⟩) n cap) ∧ Free w' (n * 3) (.slice (some ⟨blk, off, none⟩) n cap)) ∧ w.grownBy w' (some blk) := by
  have eg : ∀ args w, (callFunc 125 args).run Tryz.prog w = .ok (.enter 125 args) w := enters_of Tryz.func125 (by kernel_rfl) rfl
  have hH := holds_row h hf
  have hcon := AnyQ.slices_SortFunc Tryz.sortCell 3 Tryz.isAgg202 Tryz.sizeOf202 (encM 3) (encM_len 3) (encM_one 3) (cf2 (fun x => x.getD 0 0) (fun x => x.getD 1 0)) (swo_cf2 _ _) 125 #[] blk off cap (rowD 3 n F) w eg (cmpCell_lays blk off _ w) hH hb (by rw [rowD_size]; omega)
  rw [rowD_size] at hcon
  change Calls Tryz.prog 124 _ _ _ at hcon
  refine hcon.mono ?_
  rintro e w' ⟨rfl, d, q, os, ⟨p1, _, p3⟩, hs, rfl⟩
  rw [rowD_size] at p1
  refine ⟨rfl, d, p1, ⟨?_, hs⟩, row_holds p1 hB (Nat.lt_of_lt_of_le hb (size_sortWorldK_c _ _ _ _ _ _ _ _)) (holdsK_sortWorldK_c _ _ _ _ _ (rowD 3 n F) _ _ _ hH hb (by rw [rowD_size, p1])), sort_grown _ _ _ _ _ _ _ _⟩
  rw [extract_all d n p1, extract_all (rowD 3 n F) n (rowD_size _ _ _)] at p3
  exact p3
end

section
open Go.RowKit Go.Sort Go.Shelf Go.Lib
theorem perm_strict {α : Type} {lt : α → α → Prop} (asym : ∀ x y, lt x y → ¬ lt y x) : ∀ {l l' : List α}, l.Perm l' → l.Pairwise lt → l'.Pairwise lt → l = l'
  | [], l', hp, _, _ => (List.nil_perm.1 hp).symm
  | a :: t, l', hp, h, h' => by
    cases l' with
    | nil => exact absurd (List.perm_nil.1 hp) (by simp)
    | cons b t' =>
      have hab : a = b := by
        have ha : a ∈ b :: t' := hp.mem_iff.1 List.mem_cons_self
        have hb : b ∈ a :: t := hp.mem_iff.2 List.mem_cons_self
        rcases List.mem_cons.1 ha with e | ha'
        · exact e
        · rcases List.mem_cons.1 hb with e | hb'
          · exact e.symm
          · exact absurd ((List.pairwise_cons.1 h').1 a ha') (asym a b ((List.pairwise_cons.1 h).1 b hb'))
      subst hab
      rw [perm_strict asym ((List.perm_cons a).1 hp) (List.pairwise_cons.1 h).2 (List.pairwise_cons.1 h').2]
/-- Below, by two numbers. -/
def Lt2 {α : Type} (k s : α → Int) (x y : α) : Prop := k x < k y ∨ k x = k y ∧ s x < s y
theorem Lt2.asym {α : Type} {k s : α → Int} {x y : α} (h : Lt2 k s x y) : ¬ Lt2 k s y x := by
  unfold Lt2 at *
  omega
theorem Lt2.total {α : Type} {k s : α → Int} {x y : α} (h : ¬ Lt2 k s y x) (hn : ¬ (k x = k y ∧ s x = s y)) : Lt2 k s x y := by
  unfold Lt2 at *
  omega
theorem Lt2.ne {α : Type} {k s : α → Int} {x y : α} (h : Lt2 k s x y) : ¬ (k x = k y ∧ s x = s y) := by
  unfold Lt2 at h
  omega
/-- What a sort by two numbers leaves is the list in which they rise, if there is one. -/
theorem sorted_is {k s : List Int → Int} {d : Array (List Int)} {n : Nat} (hd : d.size = n) (hs : SortedIn (ltOf (cf2 k s)) 0 n d) {l : List (List Int)} (hp : d.toList.Perm l) (hl : l.Pairwise (Lt2 k s)) : d.toList = l := by
  refine perm_strict (fun _ _ h => h.asym) hp ?_ hl
  have h1 : l.Pairwise (fun x y => ¬ (k x = k y ∧ s x = s y)) := hl.imp (fun h => h.ne)
  have h2 : d.toList.Pairwise (fun x y => ¬ (k x = k y ∧ s x = s y)) := (hp.pairwise_iff (fun {x y} h q => h ⟨q.1.symm, q.2.symm⟩)).2 h1
  rw [List.pairwise_iff_getElem] at h2 ⊢
  intro i j hi hj hij
  refine Lt2.total ?_ (h2 i j hi hj hij)
  have hi' : i < d.size := by simpa using hi
  have hj' : j < d.size := by simpa using hj
  have h3 := hs i j (Nat.zero_le _) hij (by omega)
  rw [lt_cf2, getElem!_pos d i hi', getElem!_pos d j hj'] at h3
  have h4 := of_decide_eq_false h3
  simpa [Lt2] using h4
end

section
open Go.RowKit Go.Sort Go.Shelf Go.Lib
/-- The struct number k of a row. -/
def struD (F : Nat → Int) (m k : Nat) : List Int := (List.range m).map fun q => F (k * m + q)
theorem struD_len (F : Nat → Int) (m k : Nat) : (struD F m k).length = m := by simp [struD]
theorem flat_get {m : Nat} : ∀ (l : List (List Int)) (t : Nat), (∀ x ∈ l, x.length = m) → t < l.length * m → l.flatten.getD t 0 = (l.getD (t / m) []).getD (t % m) 0
  | [], t, _, ht => by simp at ht
  | x :: r, t, hl, ht => by
    have hx : x.length = m := hl x List.mem_cons_self
    have hm : 0 < m := Nat.pos_of_ne_zero (fun e => by subst e; simp at ht)
    rcases Nat.lt_or_ge t m with h | h
    · rw [Nat.div_eq_of_lt h, Nat.mod_eq_of_lt h, List.flatten_cons]
      simp [List.getElem?_append, hx, h]
    · have ih := flat_get r (t - m) (fun y hy => hl y (List.mem_cons_of_mem _ hy)) (by simp only [List.length_cons, Nat.succ_mul] at ht; omega)
      have e1 : t / m = (t - m) / m + 1 := Nat.div_eq_sub_div hm h
      have e2 : t % m = (t - m) % m := Nat.mod_eq_sub_mod h
      have hn : ¬ t < x.length := by omega
      rw [e1, e2, List.flatten_cons]
      rw [List.getD_cons_succ, ← ih]
      simp [List.getElem?_append, hx, Nat.not_lt.2 h]
end
end Go.Proofs.YtphfiojhpfdpdaaGreat

namespace Go.Proofs.YtphfiojhpfdpdaaGreat
section
open Go.RowKit Go.Maps
theorem kp_same {p q x y : Int} (hp : Wf p) (hq : Wf q) (hx : Wf x) (hy : Wf y) : (kp p q).sameKey (kp x y) = decide (p = x ∧ q = y) := by
  by_cases e : p = x ∧ q = y
  · obtain ⟨rfl, rfl⟩ := e
    simp [kp, Lit.sameKey]
  · rw [decide_eq_false e]
    have : kp p q ≠ kp x y := fun h => e (kp_inj hp hq hx hy h)
    unfold kp at this ⊢
    unfold Lit.sameKey
    rw [beq_eq_false_iff_ne]
    exact fun h => this (by rw [h])
theorem lits_int {m : Nat} {c : Value} {ls : List Lit} (h : Tryz.prog.keyLits (m + 1) 2 [c] = some ls) : ∃ x, c = .int .i64 x ∧ ls = [.int .i64 x] ∧ Wf x := by
  unfold Program.keyLits at h
  simp only [Tryz.underlying2] at h
  cases c <;> simp at h
  obtain ⟨⟨rfl, hw⟩, rfl⟩ := h
  exact ⟨_, rfl, rfl, hw⟩
theorem keyOf_place_inv {key : Value} {kl : Lit} (h : keyOf Tryz.prog 200 key = some kl) : ∃ x y, key = .agg #[.int .i64 x, .int .i64 y] ∧ kl = kp x y ∧ Wf x ∧ Wf y := by
  have h2 : Tryz.prog.cellsOf 200 = 2 := by kernel_rfl
  have h3 : Tryz.prog.cellsOf 2 = 1 := by kernel_rfl
  obtain ⟨m, h4⟩ : ∃ m, Tryz.prog.types.size = m + 1 := ⟨Tryz.prog.types.size - 1, by kernel_rfl⟩
  have hf := h
  unfold keyOf at hf
  simp only [Tryz.underlying200] at hf
  by_cases hc : (Tryz.prog.keyType 200 && key.formed Tryz.prog 200) = true
  case neg => rw [if_neg hc] at hf; cases hf
  rw [if_pos hc, h4] at hf
  have hform := (Bool.and_eq_true_iff.1 hc).2
  cases key with
  | agg cs =>
    simp [Value.formed, Tryz.underlying200, h2] at hform
    obtain ⟨c0, c1, rfl⟩ : ∃ c0 c1, cs = #[c0, c1] := by
      exact ⟨cs[0]'(by omega), cs[1]'(by omega), Array.ext (by simpa using hform) (fun i h0 h1 => by
        have : i = 0 ∨ i = 1 := by simp at h1; omega
        rcases this with rfl | rfl <;> rfl)⟩
    unfold Program.keyLits at hf
    simp only [Tryz.underlying200, Value.cells] at hf
    rw [if_pos (by rw [h2]; exact ⟨rfl, by kernel_rfl⟩)] at hf
    simp [h3, List.mapM_cons, Option.bind_eq_some_iff] at hf
    obtain ⟨l0, g0, _, ⟨l1, g1, rfl⟩, rfl⟩ := hf
    obtain ⟨x, rfl, rfl, hx⟩ := lits_int g0
    obtain ⟨y, rfl, rfl, hy⟩ := lits_int g1
    exact ⟨x, y, rfl, by simp [kp], hx, hy⟩
  | _ => simp [Value.formed, Tryz.underlying200] at hform
/-- Block b is a map that has m, block r an iterator over it; 'left' tells which keys are still to come, cnt how many at most. -/
def PR (w : World) (b r n : Nat) (m : Int → Int → Option Int) (left : Int → Int → Bool) (cnt : Nat) : Prop :=
  ∃ (D : DataW Unit) (L : Lit → Bool), w.ranges Tryz.prog 200 (plainElem Tryz.prog 2) b r n D L cnt ∧ (∀ x y, Wf x → Wf y → Maps.has D (kp x y) = (m x y).isSome ∧ D.atKey (kp x y) (.lit (.int .i64 0)) = .lit (.int .i64 ((m x y).getD 0))) ∧ ∀ x y, Wf x → Wf y → L (kp x y) = left x y
theorem PR.pm {w : World} {b r n cnt : Nat} {m : Int → Int → Option Int} {left : Int → Int → Bool} (h : PR w b r n m left cnt) : PM w b n m := by
  obtain ⟨D, L, h1, h2, _⟩ := h
  exact ⟨D, h1.owns, h2⟩
theorem PR.ne {w : World} {b r n cnt : Nat} {m : Int → Int → Option Int} {left : Int → Int → Bool} (h : PR w b r n m left cnt) : r ≠ b := by
  obtain ⟨D, L, h1, _⟩ := h
  exact h1.ne
theorem PR.lt {w : World} {b r n cnt : Nat} {m : Int → Int → Option Int} {left : Int → Int → Bool} (h : PR w b r n m left cnt) : r < w.heap.size := by
  obtain ⟨D, L, h1, _⟩ := h
  exact h1.lt
theorem PR.left_eq {w : World} {b r n cnt : Nat} {m : Int → Int → Option Int} {left : Int → Int → Bool} (h : PR w b r n m left cnt) : w.rangeLeft b r = cnt := by
  obtain ⟨D, L, h1, _⟩ := h
  exact h1.left_eq
theorem PR.kept {w w' : World} {b r n cnt : Nat} {m : Int → Int → Option Int} {left : Int → Int → Bool} {row : Option Nat} (h : PR w b r n m left cnt) (hg : w.grownBy w' row) (hb : some b ≠ row) (hr : some r ≠ row) : PR w' b r n m left cnt := by
  obtain ⟨D, L, h1, r1⟩ := h
  exact ⟨D, L, h1.kept hg hb hr, r1⟩
theorem PR.later {w w' : World} {b r n cnt : Nat} {m : Int → Int → Option Int} {left : Int → Int → Bool} (h : PR w b r n m left cnt) (hb : Below w.heap.size w w') : PR w' b r n m left cnt :=
  h.kept (row := none) ⟨hb.os, hb.tape, hb.output, hb.size, fun i hi _ => hb.block i hi⟩ (by simp) (by simp)
theorem PR.congr {w : World} {b r n cnt : Nat} {m : Int → Int → Option Int} {left left' : Int → Int → Bool} (h : PR w b r n m left cnt) (e : ∀ x y, left x y = left' x y) : PR w b r n m left' cnt := by
  obtain ⟨D, L, h1, r1, r2⟩ := h
  exact ⟨D, L, h1, r1, fun x y hx hy => by rw [r2 x y hx hy, e]⟩
/-- 'left' without one key. -/
def strike (left : Int → Int → Bool) (x y : Int) : Int → Int → Bool := fun p q => left p q && !decide (p = x ∧ q = y)
theorem wpList_prange (w : World) {ops : Array Oper} {rest : List Oper} {o : Oper} {a : Act} {Q : Exit → Act → World → Prop} (hg : o.guard = none) (mo : Operand) (hop : o.op = Op.range 169 mo)
    (b n : Nat) (m : Int → Int → Option Int) (hm : a.eval mo = .map (some b)) (h : PM w b n m)
    (hK : ∀ w' cnt, cnt ≤ n → PR w' b w.heap.size n m (fun x y => (m x y).isSome) cnt → Below w.heap.size w w' → w'.heap.size = w.heap.size + 1 → wpList Tryz.prog ops Q rest (a.put o.dst (.pointer (some ⟨w.heap.size, 0, none⟩))) w') :
    wpList Tryz.prog ops Q (o :: rest) a w := by
  obtain ⟨D, h1, h2⟩ := h
  refine wpList_range_own w hg mo 169 hop _ _ placeKeyed Tryz.underlying169 _ b n D hm h1 ?_
  intro w' hr hgw hs
  refine hK w' (Maps.size D) h1.size_le ⟨D, Maps.has D, hr, h2, fun x y hx hy => (h2 x y hx hy).1⟩ ?_ hs
  exact ⟨hgw.os, hgw.tape, hgw.output, hgw.size, fun i hi => hgw.block i hi (by simp)⟩
theorem wpList_pnext (w : World) {ops : Array Oper} {rest : List Oper} {o : Oper} {a : Act} {Q : Exit → Act → World → Prop} (hg : o.guard = none) (it : Operand) (hop : o.op = Op.next it false)
    (b r n : Nat) (m : Int → Int → Option Int) (left : Int → Int → Bool) (cnt : Nat) (hit : a.eval it = .pointer (some ⟨r, 0, none⟩)) (h : PR w b r n m left cnt) (hle : ∀ x y, Wf x → Wf y → left x y = true → (m x y).isSome = true)
    (hDone : (∀ x y, Wf x → Wf y → left x y = false) → wpList Tryz.prog ops Q rest (a.put o.dst (.tuple #[.bool false])) w)
    (hMore : ∀ (x y c : Int) (w' : World) (cnt' : Nat), Wf x → Wf y → Wf c → left x y = true → m x y = some c → PR w' b r n m (strike left x y) cnt' → cnt' < cnt → w.grownBy w' (some r) → w'.heap.size = w.heap.size →
      (Instr.entry (.pointer (some ⟨r, 0, none⟩))).run Tryz.prog w' = .ok (.tuple #[.agg #[.int .i64 x, .int .i64 y], .int .i64 c]) w' → wpList Tryz.prog ops Q rest (a.put o.dst (.tuple #[.bool true, .agg #[.int .i64 x, .int .i64 y], .int .i64 c])) w') :
    wpList Tryz.prog ops Q (o :: rest) a w := by
  obtain ⟨D, L, h1, h2, h3⟩ := h
  refine wpList_next_ranges (α := Int × Int) (β := Int) w hg it hop _ placeKeyed _ (fun p => .agg #[.int .i64 p.1, .int .i64 p.2]) (Value.int .i64) (fun key kl hk => by obtain ⟨x, y, e, _⟩ := keyOf_place_inv hk; exact ⟨(x, y), e⟩) (fun v y hv => by obtain ⟨c, e, _⟩ := plainElem_int_inv Tryz.underlying2 hv; exact ⟨c, e⟩) b r n D L cnt hit h1 ?_ ?_
  · intro _ hl
    exact hDone fun x y hx hy => by rw [← h3 x y hx hy]; exact hl _
  · rintro ⟨x, y⟩ c kl z w' cnt' hkey hl hv hat hr hlt hgw hs hen
    obtain ⟨x', y', e, rfl, hx, hy⟩ := keyOf_place_inv hkey
    simp at e
    obtain ⟨rfl, rfl⟩ := e
    obtain ⟨c', e, rfl, hc⟩ := plainElem_int_inv Tryz.underlying2 hv
    simp at e
    subst e
    have hl' : left x y = true := by rw [← h3 x y hx hy]; exact hl
    have hsome := hle x y hx hy hl'
    have hat' := (h2 x y hx hy).2
    rw [hat] at hat'
    simp at hat'
    have hm : m x y = some c := by
      obtain ⟨u, hu⟩ := Option.isSome_iff_exists.1 hsome
      rw [hu] at hat' ⊢
      simp at hat'
      rw [hat']
    refine hMore x y c w' cnt' hx hy hc hl' hm ⟨D, _, hr, h2, fun p q hp hq => ?_⟩ hlt hgw hs hen
    rw [h3 p q hp hq, kp_same hp hq hx hy]
    rfl
end

section
open Go.RowKit Go.Sort Go.Shelf Go.Lib
theorem sortCell_any (B n : Nat) (F : Nat → Int) (v : Value) (w : World) (h : Row w B 3 n F v) (hf : Free w (n * 3) v) (hn : n ≤ 1048576) :
    Calls Tryz.prog 124 #[v, .func (.func 125) #[] #[]] w fun e w' => e = .returned (.tuple #[]) ∧ ∃ d : Array (List Int), d.size = n ∧ (d.toList.Perm (rowD 3 n F).toList ∧ SortedIn (ltOf (cf2 (fun x => x.getD 0 0) (fun x => x.getD 1 0))) 0 n d) ∧ (Row w' B 3 n (rowF 3 d) v ∧ Free w' (n * 3) v) ∧ w.grownBy w' (turn n v) := by
  obtain ⟨ao, cp, rfl⟩ := h.form
  rcases Nat.eq_zero_or_pos n with e | e
  · subst e
    have hcon := AnyF.slices_SortFunc_none Tryz.sortCell ao cp (.func (.func 125) #[] #[]) w
    change Calls Tryz.prog 124 _ _ _ at hcon
    refine hcon.mono ?_
    rintro e w' ⟨rfl, rfl⟩
    refine ⟨rfl, #[], rfl, ⟨by simp [rowD], fun i j _ hij hj => by omega⟩, ⟨⟨_, _, rfl, fun q => absurd q (Nat.lt_irrefl 0)⟩, by rw [Nat.zero_mul]; exact Free.of0 _ _⟩, ⟨rfl, rfl, rfl, Nat.le_refl _, fun _ _ _ => rfl⟩⟩
  · obtain ⟨g, o, rfl, hB, hg, _⟩ := h.at e
    refine (sortCell_is B n g o cp F w h hf hB hg hn).mono ?_
    rintro e' w' ⟨rfl, d, h1, h2, h3, h4⟩
    refine ⟨rfl, d, h1, h2, h3, ?_⟩
    have : turn n (.slice (some ⟨g, o, none⟩) n cp) = some g := by unfold turn; rw [if_neg (by omega)]; rfl
    rw [this]
    exact h4
/-- The entries of a map that have come: all that are not left, each once. -/
def Col3 (m : Int → Int → Option Int) (left : Int → Int → Bool) (L : List (List Int)) : Prop :=
  (∀ t ∈ L, ∃ x y v, t = [x, y, v] ∧ Wf x ∧ Wf y ∧ m x y = some v ∧ left x y = false) ∧ (∀ x y v, Wf x → Wf y → m x y = some v → left x y = false → [x, y, v] ∈ L) ∧ L.Nodup ∧ ∀ x y, left x y = true → (m x y).isSome = true
theorem Col3.start (m : Int → Int → Option Int) : Col3 m (fun x y => (m x y).isSome) [] := by
  refine ⟨fun t ht => absurd ht (by simp), fun x y v _ _ h h' => ?_, by simp, fun _ _ h => h⟩
  have h2 : (m x y).isSome = false := h'
  rw [h] at h2
  simp at h2
theorem Col3.len {m : Int → Int → Option Int} {left : Int → Int → Bool} {L : List (List Int)} (h : Col3 m left L) : ∀ t ∈ L, t.length = 3 := fun t ht => by
  obtain ⟨x, y, v, rfl, _⟩ := h.1 t ht
  rfl
theorem Col3.step {m : Int → Int → Option Int} {left : Int → Int → Bool} {L : List (List Int)} (h : Col3 m left L) {x y c : Int} (hx : Wf x) (hy : Wf y) (hl : left x y = true) (hm : m x y = some c) : Col3 m (strike left x y) (L ++ [[x, y, c]]) := by
  refine ⟨fun t ht => ?_, fun p q v hp hq h1 h2 => ?_, ?_, fun p q h1 => ?_⟩
  · rcases List.mem_append.1 ht with ht | ht
    · obtain ⟨p, q, v, rfl, h1, h2, h3, h4⟩ := h.1 t ht
      exact ⟨p, q, v, rfl, h1, h2, h3, by unfold strike; rw [h4]; rfl⟩
    · simp at ht
      subst ht
      exact ⟨x, y, c, rfl, hx, hy, hm, by simp [strike]⟩
  · by_cases e : p = x ∧ q = y
    · obtain ⟨rfl, rfl⟩ := e
      rw [hm] at h1
      simp at h1
      subst h1
      simp
    · refine List.mem_append.2 (Or.inl (h.2.1 p q v hp hq h1 ?_))
      unfold strike at h2
      rw [decide_eq_false e] at h2
      simpa using h2
  · refine List.nodup_append.2 ⟨h.2.2.1, by simp, ?_⟩
    intro a ha b hb e
    simp at hb
    subst hb
    subst e
    obtain ⟨p, q, v, e, _, _, _, h4⟩ := h.1 _ ha
    simp at e
    obtain ⟨rfl, rfl, _⟩ := e
    rw [hl] at h4
    simp at h4
  · unfold strike at h1
    exact h.2.2.2 p q (by simp at h1; exact h1.1)
/-- A row of cells that rises and has just what a map has. -/
structure MapRow (m : Int → Int → Option Int) (nc : Nat) (c : Nat → Int) : Prop where
  rise : ∀ j, j < nc → ∀ i, i < j → pairLt (c (i * 3)) (c (i * 3 + 1)) (c (j * 3)) (c (j * 3 + 1))
  wf : ∀ i, i < nc → Wf (c (i * 3)) ∧ Wf (c (i * 3 + 1))
  has : ∀ i, i < nc → m (c (i * 3)) (c (i * 3 + 1)) = some (c (i * 3 + 2))
  all : ∀ x y v, Wf x → Wf y → m x y = some v → ∃ i, i < nc ∧ c (i * 3) = x ∧ c (i * 3 + 1) = y ∧ c (i * 3 + 2) = v
theorem rowD_list (m n : Nat) (F : Nat → Int) : (rowD m n F).toList = (List.range n).map (struD F m) := by
  unfold rowD struD
  simp
theorem struD_three (c : Nat → Int) (i : Nat) : struD c 3 i = [c (i * 3), c (i * 3 + 1), c (i * 3 + 2)] := rfl
theorem MapRow.up {m : Int → Int → Option Int} {nc : Nat} {c : Nat → Int} (h : MapRow m nc c) : ((rowD 3 nc c).toList).Pairwise (Lt2 (fun x => x.getD 0 0) (fun x => x.getD 1 0)) := by
  rw [rowD_list, List.pairwise_map, List.pairwise_iff_getElem]
  intro i j hi hj hij
  simp at hi hj
  simp only [List.getElem_range]
  exact h.rise j hj i hij
theorem Lt2.nodup {k s : List Int → Int} {l : List (List Int)} (h : l.Pairwise (Lt2 k s)) : l.Nodup := h.imp (fun {a b} h e => h.ne (by subst e; exact ⟨rfl, rfl⟩))
theorem MapRow.perm {m : Int → Int → Option Int} {nc : Nat} {c : Nat → Int} (h : MapRow m nc c) {left : Int → Int → Bool} {L : List (List Int)} (hL : Col3 m left L) (hd : ∀ x y, Wf x → Wf y → left x y = false) : L.Perm (rowD 3 nc c).toList := by
  refine (List.perm_ext_iff_of_nodup hL.2.2.1 (Lt2.nodup h.up)).2 (fun t => ?_)
  rw [rowD_list, List.mem_map]
  constructor
  · intro ht
    obtain ⟨x, y, v, rfl, hx, hy, hm, _⟩ := hL.1 t ht
    obtain ⟨i, hi, rfl, rfl, rfl⟩ := h.all x y v hx hy hm
    exact ⟨i, List.mem_range.2 hi, struD_three c i⟩
  · rintro ⟨i, hi, rfl⟩
    have hi' := List.mem_range.1 hi
    rw [struD_three]
    exact hL.2.1 _ _ _ (h.wf i hi').1 (h.wf i hi').2 (h.has i hi') (hd _ _ (h.wf i hi').1 (h.wf i hi').2)
theorem rowD_flat {m : Nat} (hm : 0 < m) (L : List (List Int)) (hL : ∀ t ∈ L, t.length = m) : (rowD m L.length (fun p => L.flatten.getD p 0)).toList = L := by
  rw [rowD_list]
  apply List.ext_getElem (by simp)
  intro i h1 h2
  have hi : i < L.length := h2
  simp only [List.getElem_map, List.getElem_range]
  apply List.ext_getElem
  · rw [struD_len, hL _ (List.getElem_mem _)]
  · intro q h3 h4
    have hq : q < m := by rw [struD_len] at h3; exact h3
    have hlt : i * m + q < L.length * m := by
      calc i * m + q < i * m + m := by omega
        _ = (i + 1) * m := by rw [Nat.succ_mul]
        _ ≤ L.length * m := Nat.mul_le_mul_right m hi
    have e := flat_get (m := m) L (i * m + q) hL hlt
    have d1 : (i * m + q) / m = i := by rw [Nat.mul_comm, Nat.mul_add_div hm, Nat.div_eq_of_lt hq, Nat.add_zero]
    have d2 : (i * m + q) % m = q := by rw [Nat.mul_comm, Nat.mul_add_mod, Nat.mod_eq_of_lt hq]
    rw [d1, d2] at e
    have s1 : (struD (fun p => L.flatten.getD p 0) m i)[q] = L.flatten.getD (i * m + q) 0 := by simp [struD]
    rw [s1, e]
    simp [hi, hL _ (List.getElem_mem hi), hq]
/-- What the sort of a map's entries leaves. -/
theorem MapRow.sorted {m : Int → Int → Option Int} {nc : Nat} {c : Nat → Int} (h : MapRow m nc c) {left : Int → Int → Bool} {L : List (List Int)} (hL : Col3 m left L) (hd : ∀ x y, Wf x → Wf y → left x y = false) : L.length = nc ∧ ∀ d : Array (List Int), d.size = L.length → d.toList.Perm (rowD 3 L.length (fun p => L.flatten.getD p 0)).toList → SortedIn (ltOf (cf2 (fun x => x.getD 0 0) (fun x => x.getD 1 0))) 0 L.length d → ∀ t, t < nc * 3 → rowF 3 d t = c t := by
  have hp := h.perm hL hd
  have hlen : L.length = nc := by rw [hp.length_eq, Array.length_toList, rowD_size]
  refine ⟨hlen, fun d h1 h2 h3 t ht => ?_⟩
  rw [rowD_flat (by omega) L hL.len] at h2
  have e := sorted_is h1 h3 (h2.trans hp) h.up
  have e2 : d = rowD 3 nc c := by
    apply Array.ext'
    exact e
  rw [e2]
  exact rowF_rowD 3 nc c t ht
theorem puts_some {p q v : Nat → Int} {x y u : Int} : ∀ {n : Nat}, puts p q v n x y = some u → ∃ i, i < n ∧ p i = x ∧ q i = y ∧ v i = u
  | 0, h => by simp [puts] at h
  | n + 1, h => by
    unfold puts putM at h
    by_cases e : x = p n ∧ y = q n
    · rw [if_pos e] at h
      simp at h
      exact ⟨n, by omega, e.1.symm, e.2.symm, h⟩
    · rw [if_neg e] at h
      obtain ⟨i, hi, r⟩ := puts_some h
      exact ⟨i, by omega, r⟩
theorem cellM_some {S : Sto} {x y u : Int} (h : cellM S S.nc x y = some u) : ∃ i, i < S.nc ∧ S.c (i * 3) = x ∧ S.c (i * 3 + 1) = y ∧ S.c (i * 3 + 2) = u := puts_some h
end
end Go.Proofs.YtphfiojhpfdpdaaGreat

namespace Go.Proofs.YtphfiojhpfdpdaaGreat
open Go.RowKit Go.Maps Go.Sort Go.Shelf Go.Lib

theorem run_copy (t ty e : TypeId) (i : TypeInfo) (z : Value) (m bytes : Nat) (ht : Tryz.prog.underlying t = some (.slice e)) (hi : Tryz.prog.info? e = some i) (hz : i.zero = some z) (hsize : i.size = m) (hby : i.bytes = bytes) (hzs : z.cells.size = m) (hm : 0 < m) (hb5 : bytes ≤ 1000)
    (w : World) (B n : Nat) (F : Nat → Int) (v : Value) (h : Own w B e m n F v) (hn : n ≤ 1048576) : ∃ v' w', (Builtin.append_ #[t, t] ty #[.slice none 0 0, v]).run Tryz.prog w = .ok v' w' ∧ Own w' w.heap.size e m n F v' ∧ Below w.heap.size w w' := by
  have hr := h.row.1
  rcases h.2 with ⟨rfl, rfl⟩ | ⟨g, cap, cur, rfl, hg, hw, _⟩
  · exact ⟨_, _, run_append_owned_none (P := Tryz.prog) w w.heap.size t ty e i m ht hi _ 0 [] ⟨by simp, Or.inl ⟨rfl, rfl⟩⟩, Own.nil _ _ _ _ _, Below.refl _ _⟩
  · have hbb : n * bytes ≤ 1048576 * 1000 := Nat.mul_le_mul hn hb5
    obtain ⟨v', w', h1, h2, h3, _⟩ := run_append_own (P := Tryz.prog) w w.heap.size t ty e i z m bytes ht hi hz hsize hby hzs hm (.slice none 0 0) 0 [] ⟨by simp, Or.inl ⟨rfl, rfl⟩⟩ ⟨g, 0, none⟩ n cap (vals F (n * m)) (vals_length _ _) (row_cells hr) (vals_one _ _) (by unfold maxLen; omega) (by rw [Nat.zero_add]; omega) (Nat.le_refl _)
    refine ⟨v', w', h1, ?_, ⟨h3.os, h3.tape, h3.output, h3.size, fun i hi => h3.block i hi (by simp [Value.ownBlock])⟩⟩
    simpa [Own] using h2
/-- 'append([]T(nil), row...)' at a step of a region that draws its order. -/
theorem step_copy {ops : Array Oper} {o : Oper} {a : Act} {K : Act → World → Prop} {Q : Exit → Act → World → Prop} {E : Prop} (hgd : o.guard = none) (x : Operand) (t : TypeId) (ho : o.op = .call { callee := .builtin .append, args := #[.const (.slice none 0 0), x], argTypes := #[t, t] })
    (e : TypeId) (i : TypeInfo) (z : Value) (m bytes : Nat) (ht : Tryz.prog.underlying t = some (.slice e)) (hi : Tryz.prog.info? e = some i) (hz : i.zero = some z) (hsize : i.size = m) (hby : i.bytes = bytes) (hzs : z.cells.size = m) (hm : 0 < m) (hb5 : bytes ≤ 1000)
    (w : World) (B n : Nat) (F : Nat → Int) (v : Value) (hx : a.eval x = v) (h : Own w B e m n F v) (hn : n ≤ 1048576) (hK : ∀ v' w', Own w' w.heap.size e m n F v' → Below w.heap.size w w' → K (a.put o.dst v') w') :
    if Region.wanted o (yielded ops a.tmps) = true then Oper.wp Tryz.prog o a w K Q else E := by
  have hw : Region.wanted o (yielded ops a.tmps) = true := by simp [Region.wanted, hgd]
  rw [if_pos hw]
  obtain ⟨v', w', hr, h2, h3⟩ := run_copy t o.type e i z m bytes ht hi hz hsize hby hzs hm hb5 w B n F v h hn
  have hc : a.eval (.const (.slice none 0 0)) = .slice none 0 0 := rfl
  unfold Oper.wp execOp
  simp only [ho, resolve, invoke, builtin, Sem.run_bind, Sem.run_pure, Result.andThen_ok, List.map_toArray, List.map_cons, List.map_nil, hc, hx, hr]
  exact hK v' w' h2 h3
theorem grown_set (w : World) (a : Addr) (u : Value) : w.grownBy (w.setCell a u) (some a.block) := ⟨rfl, rfl, rfl, by simp, fun i _ hne => Below.heap_setCell w a u i (fun e => hne (by rw [e]))⟩
/-- What store stands on behind its copies: the columns; its answer (the first new block); its own store (block b3), of which two rows are done. -/
structure Leaf (w : World) (b oo N : Nat) (m : Int → Int → Option Int) (nl : Nat) (l : Nat → Int) (nw : Nat) (k : Nat → Int) (g : Nat) (u1 u2 : Value) (b3 : Nat) (q0 q1 q2 r1 r2 : Value) (x : World) : Prop where
  cols : Blk3O x b oo (.map (some g)) u1 u2
  pm : PM x g N m
  gl : g < w.heap.size
  res : Blk3 x w.heap.size (.slice none 0 0) (.slice none 0 0) (.slice none 0 0)
  own : Blk3 x b3 q0 q1 q2
  lo : w.heap.size < b3
  bl : b < w.heap.size
  s1 : Own x (w.heap.size + 1) 209 5 nl l r1
  s2 : Own x (w.heap.size + 1) 211 4 nw k r2
  a1 : r1.ownBlock ≠ some b3
  a2 : r2.ownBlock ≠ some b3
  a12 : ∀ q, r1.ownBlock = some q → r2.ownBlock ≠ some q
  below : Below w.heap.size w x
theorem Leaf.later {w : World} {b oo N : Nat} {m : Int → Int → Option Int} {nl : Nat} {l : Nat → Int} {nw : Nat} {k : Nat → Int} {g : Nat} {u1 u2 : Value} {b3 : Nat} {q0 q1 q2 r1 r2 : Value} {x x' : World} (h : Leaf w b oo N m nl l nw k g u1 u2 b3 q0 q1 q2 r1 r2 x) (hb : Below x.heap.size x x') : Leaf w b oo N m nl l nw k g u1 u2 b3 q0 q1 q2 r1 r2 x' :=
  ⟨h.cols.later hb, h.pm.later hb, h.gl, h.res.later hb, h.own.later hb, h.lo, h.bl, h.s1.later hb, h.s2.later hb, h.a1, h.a2, h.a12, h.below.trans (hb.mono h.below.size)⟩
theorem Own.block {w : World} {B : Nat} {e : TypeId} {m n : Nat} {F : Nat → Int} {v : Value} (h : Own w B e m n F v) : ∀ k, v.ownBlock = some k → B ≤ k ∧ k < w.heap.size := own_in h
theorem Own.kept {w w' : World} {B : Nat} {e : TypeId} {m n : Nat} {F : Nat → Int} {v : Value} (h : Own w B e m n F v) (hb : ∀ k, v.ownBlock = some k → w'.heap[k]? = w.heap[k]?) : Own w' B e m n F v := by
  refine ⟨h.1, ?_⟩
  rcases h.2 with q | ⟨g, cap, cur, rfl, hg, hw, r⟩
  · exact Or.inl q
  · exact Or.inr ⟨g, cap, cur, rfl, hg, (hb g rfl).trans hw, r⟩
theorem Leaf.put {w : World} {b oo N : Nat} {m : Int → Int → Option Int} {nl : Nat} {l : Nat → Int} {nw : Nat} {k : Nat → Int} {g : Nat} {u1 u2 : Value} {b3 : Nat} {q0 q1 q2 r1 r2 : Value} {x : World} (h : Leaf w b oo N m nl l nw k g u1 u2 b3 q0 q1 q2 r1 r2 x) (a0 a1 a2 : Value) :
    Leaf w b oo N m nl l nw k g u1 u2 b3 a0 a1 a2 r1 r2 (((x.setCell ⟨b3, 0, none⟩ a0).setCell ⟨b3, 1, none⟩ a1).setCell ⟨b3, 2, none⟩ a2) := by
  have hb : ∀ i, i ≠ b3 → (((x.setCell ⟨b3, 0, none⟩ a0).setCell ⟨b3, 1, none⟩ a1).setCell ⟨b3, 2, none⟩ a2).heap[i]? = x.heap[i]? := fun i hi => (Below.heap_setCell _ _ _ i hi).trans ((Below.heap_setCell _ _ _ i hi).trans (Below.heap_setCell _ _ _ i hi))
  have h1 := h.lo
  have h2 := h.gl
  have h3 := h.bl
  exact ⟨h.cols.kept (hb _ (by omega)), h.pm.kept (hb _ (by omega)), h.gl, h.res.kept (hb _ (by omega)), ((h.own.set0 a0).set1 a1).set2 a2, h.lo, h.bl, h.s1.kept (fun q hq => hb q (fun e => h.a1 (by rw [hq, e]))), h.s2.kept (fun q hq => hb q (fun e => h.a2 (by rw [hq, e]))), h.a1, h.a2, h.a12, ((h.below.setCell (by simp; omega) _).setCell (by simp; omega) _).setCell (by simp; omega) _⟩
/-- x is y but for block b3, block r and what lies from Z on. -/
def Sam (y x : World) (Z b3 r : Nat) : Prop := (x.os = y.os ∧ x.tape = y.tape ∧ x.output = y.output) ∧ Z ≤ x.heap.size ∧ ∀ i, i < Z → i ≠ b3 → i ≠ r → x.heap[i]? = y.heap[i]?
theorem Sam.step {y x x' : World} {Z b3 r : Nat} {row : Option Nat} (h : Sam y x Z b3 r) (hg : x.grownBy x' row) (hq : ∀ q, row = some q → q = b3 ∨ q = r ∨ Z ≤ q) : Sam y x' Z b3 r :=
  ⟨⟨hg.os.trans h.1.1, hg.tape.trans h.1.2.1, hg.output.trans h.1.2.2⟩, Nat.le_trans h.2.1 hg.size, fun i h1 h2 h3 => (hg.block i (Nat.lt_of_lt_of_le h1 h.2.1) (fun e => by have := hq i e.symm; omega)).trans (h.2.2 i h1 h2 h3)⟩
theorem Sam.later {y x x' : World} {Z b3 r : Nat} (h : Sam y x Z b3 r) (hb : Below x.heap.size x x') : Sam y x' Z b3 r :=
  ⟨⟨hb.os.trans h.1.1, hb.tape.trans h.1.2.1, hb.output.trans h.1.2.2⟩, Nat.le_trans h.2.1 hb.size, fun i h1 h2 h3 => (hb.block i (Nat.lt_of_lt_of_le h1 h.2.1)).trans (h.2.2 i h1 h2 h3)⟩
/-- What a round of store's loop stands on. -/
structure Rnd (w y : World) (g r N : Nat) (m : Int → Int → Option Int) (b3 : Nat) (r1 r2 : Value) (left : Int → Int → Bool) (cnt : Nat) (v : Value) (L : List (List Int)) (x : World) : Prop where
  pr : PR x g r N m left cnt
  sam : Sam y x (r + 1) b3 r
  own : Blk3 x b3 v r1 r2
  row : OwnM x (r + 1) 202 3 v L.length L.flatten
  col : Col3 m left L
  len : L.length + cnt ≤ N
theorem Rnd.later {w y x x' : World} {g r N : Nat} {m : Int → Int → Option Int} {b3 : Nat} {r1 r2 : Value} {left : Int → Int → Bool} {cnt : Nat} {v : Value} {L : List (List Int)} (h : Rnd w y g r N m b3 r1 r2 left cnt v L x) (hb : Below x.heap.size x x') : Rnd w y g r N m b3 r1 r2 left cnt v L x' :=
  ⟨h.pr.later hb, h.sam.later hb, h.own.later hb, h.row.later hb, h.col, h.len⟩
/-- The iterator goes on. -/
theorem Rnd.next {w y x x' : World} {g r N : Nat} {m : Int → Int → Option Int} {b3 : Nat} {r1 r2 : Value} {left : Int → Int → Bool} {cnt cnt' : Nat} {v : Value} {L : List (List Int)} (h : Rnd w y g r N m b3 r1 r2 left cnt v L x) (hb : b3 < r) {left' : Int → Int → Bool} (hp : PR x' g r N m left' cnt') (hg : x.grownBy x' (some r)) :
    (PR x' g r N m left' cnt' ∧ Sam y x' (r + 1) b3 r) ∧ Blk3 x' b3 v r1 r2 ∧ OwnM x' (r + 1) 202 3 v L.length L.flatten :=
  ⟨⟨hp, h.sam.step hg (fun q e => by simp at e; omega)⟩, h.own.kept (hg.block b3 h.own.lt (by simp; omega)), h.row.kept (fun i h1 h2 => hg.block i h2 (by simp; omega))⟩
/-- The cell is appended, and the row stored. -/
theorem Rnd.put {w y x x' : World} {g r N : Nat} {m : Int → Int → Option Int} {b3 : Nat} {r1 r2 : Value} {left : Int → Int → Bool} {cnt : Nat} {v v' : Value} {L : List (List Int)} {p q c : Int} (hg3 : g < b3) (hb3 : b3 < r)
    (hp : (PR x g r N m (strike left p q) cnt ∧ Sam y x (r + 1) b3 r) ∧ Blk3 x b3 v r1 r2 ∧ OwnM x (r + 1) 202 3 v L.length L.flatten) (hc : Col3 m left L) (hx : Wf p) (hy : Wf q) (hl : left p q = true) (hm : m p q = some c) (hn : L.length + 1 + cnt ≤ N)
    (ho : x'.ownsRow (r + 1) 202 3 v' (L.length + 1) (L.flatten.map (Value.int .i64) ++ [.int .i64 p, .int .i64 q, .int .i64 c])) (hg : x.grownBy x' v.ownBlock) :
    Rnd w y g r N m b3 r1 r2 (strike left p q) cnt v' (L ++ [[p, q, c]]) (x'.setCell ⟨b3, 0, none⟩ v') := by
  have hv : ∀ j, v.ownBlock = some j → r + 1 ≤ j := fun j hj => (hp.2.2.block j hj).1
  have k1 : some g ≠ v.ownBlock := fun e => by have := hv g e.symm; omega
  have k2 : some r ≠ v.ownBlock := fun e => by have := hv r e.symm; omega
  have k3 : some b3 ≠ v.ownBlock := fun e => by have := hv b3 e.symm; omega
  have ho' : OwnM x' (r + 1) 202 3 v' (L.length + 1) (L ++ [[p, q, c]]).flatten := by
    unfold OwnM
    rw [List.flatten_append, List.map_append]
    exact ho
  refine ⟨(hp.1.1.kept hg k1 k2).kept (grown_set _ _ _) (by simp; omega) (by simp; omega), (hp.1.2.step hg (fun j e => Or.inr (Or.inr (hv j e)))).step (grown_set _ _ _) (fun j e => by simp at e; omega), (hp.2.1.kept (hg.block b3 hp.2.1.lt k3)).set0 v', ?_, hc.step hx hy hl hm, by simp; omega⟩
  rw [List.length_append]
  exact ho'.far (by simp; omega) _
theorem flatten_len {m : Nat} : ∀ (L : List (List Int)), (∀ t ∈ L, t.length = m) → L.flatten.length = L.length * m
  | [], _ => by simp
  | x :: r, h => by
    rw [List.flatten_cons, List.length_append, h x List.mem_cons_self, flatten_len r (fun t ht => h t (List.mem_cons_of_mem _ ht)), List.length_cons, Nat.succ_mul, Nat.add_comm]
theorem apart_mk {w : World} {B0 B1 : Nat} {S : Sto} {u0 u1 u2 : Value} (r0 : Row w B0 3 S.nc S.c u0) (r1 : Row w B1 5 S.nl S.l u1) (h1 : ∀ i j, u0.ownBlock = some i → u1.ownBlock = some j → i ≠ j) (h2 : ∀ i j, u0.ownBlock = some i → u2.ownBlock = some j → i ≠ j) (h3 : ∀ i j, u1.ownBlock = some i → u2.ownBlock = some j → i ≠ j) : ApartD S u0 u1 u2 := by
  have own : ∀ {B m n : Nat} {F : Nat → Int} {u : Value}, Row w B m n F u → 0 < n → ∃ k, u.ownBlock = some k := fun hr hn => by
    obtain ⟨ao, cp, rfl, hr⟩ := hr
    obtain ⟨g, o, rfl, _⟩ := hr hn
    exact ⟨g, rfl⟩
  refine ⟨fun ha hb e => ?_, fun ha hb e => ?_, fun ha hb e => ?_⟩
  · obtain ⟨k, hk⟩ := own r0 ha
    exact h1 k k hk (e ▸ hk) rfl
  · obtain ⟨k, hk⟩ := own r0 ha
    exact h2 k k hk (e ▸ hk) rfl
  · obtain ⟨k, hk⟩ := own r1 ha
    exact h3 k k hk (e ▸ hk) rfl
/-- What the copies find: all of Leaf that was there ahead of them. -/
structure Pre (w : World) (b oo N : Nat) (m : Int → Int → Option Int) (g : Nat) (u1 u2 : Value) (x : World) : Prop where
  cols : Blk3O x b oo (.map (some g)) u1 u2
  pm : PM x g N m
  gl : g < w.heap.size
  res : Blk3 x w.heap.size (.slice none 0 0) (.slice none 0 0) (.slice none 0 0)
  bl : b < w.heap.size
  below : Below w.heap.size w x
theorem Pre.later {w : World} {b oo N : Nat} {m : Int → Int → Option Int} {g : Nat} {u1 u2 : Value} {x x' : World} (h : Pre w b oo N m g u1 u2 x) (hb : Below x.heap.size x x') : Pre w b oo N m g u1 u2 x' :=
  ⟨h.cols.later hb, h.pm.later hb, h.gl, h.res.later hb, h.bl, h.below.trans (hb.mono h.below.size)⟩
theorem Pre.leaf {w : World} {b oo N : Nat} {m : Int → Int → Option Int} {g : Nat} {u1 u2 : Value} {x : World} (h : Pre w b oo N m g u1 u2 x) {b3 : Nat} {q0 q1 q2 : Value} (ho : Blk3 x b3 q0 q1 q2) (hlo : w.heap.size < b3) {nl : Nat} {l : Nat → Int} {nw : Nat} {k : Nat → Int} {r1 r2 : Value} (h1 : Own x (w.heap.size + 1) 209 5 nl l r1) (h2 : Own x (w.heap.size + 1) 211 4 nw k r2)
    (a1 : ∀ j, r1.ownBlock = some j → j ≠ b3) (a2 : ∀ j, r2.ownBlock = some j → j ≠ b3) (a12 : ∀ i j, r1.ownBlock = some i → r2.ownBlock = some j → i ≠ j) : Leaf w b oo N m nl l nw k g u1 u2 b3 q0 q1 q2 r1 r2 x :=
  ⟨h.cols, h.pm, h.gl, h.res, ho, hlo, h.bl, h1, h2, fun e => a1 b3 e rfl, fun e => a2 b3 e rfl, fun q e e' => a12 q q e e' rfl, h.below⟩
theorem size_drew (w : World) (o : Obj) : (w.alloc o).drew.heap.size = w.heap.size + 1 := by simp
/-- What the copying region stands on: the columns' block. -/
def ColBox (w : World) (b oo : Nat) (v0 v1 v2 : Value) (x : World) : Prop := Blk3O x b oo v0 v1 v2 ∧ Below w.heap.size w x
theorem ColBox.later {w x x' : World} {b oo : Nat} {v0 v1 v2 : Value} (h : ColBox w b oo v0 v1 v2 x) (hb : Below x.heap.size x x') : ColBox w b oo v0 v1 v2 x' := ⟨h.1.later hb, h.2.trans (hb.mono h.2.size)⟩
set_option maxRecDepth 100000 in
set_option maxHeartbeats 16000000 in
theorem store_isO (B b oo N : Nat) (m : Int → Int → Option Int) (nl : Nat) (l : Nat → Int) (nw : Nat) (k : Nat → Int) (g : Nat) (u1 u2 : Value) (w : World) (h : ColsO w B b oo N m nl l nw k g u1 u2) (hl : nl ≤ 200) (hw : nw ≤ 200) (hN : N ≤ 400) (nc : Nat) (c : Nat → Int) (hM : MapRow m nc c) :
    Calls Tryz.prog 93 #[.pointer (some ⟨b, oo, none⟩)] w (NewSto w ⟨nc, c, nl, l, nw, k⟩) := by
  unfold NewSto
  obtain ⟨b1, d1, rfl⟩ := h.2.2.2.2.1.form
  obtain ⟨b2, d2, rfl⟩ := h.2.2.2.2.2.form
  have H1 : Hid (Own w B 209 5 nl l (.slice b1 nl d1)) := h.2.2.2.2.1
  have H2 : Hid (Own w B 211 4 nw k (.slice b2 nw d2)) := h.2.2.2.2.2
  have HM : Hid (MapRow m nc c) := hM
  obtain ⟨i1, hi1, hz01, hz11, hz21⟩ := info_parts infoz_Lock
  obtain ⟨i2, hi2, hz02, hz12, hz22⟩ := info_parts infoz_Write
  obtain ⟨i0, hi, hz0, hz1, hz2⟩ := info_parts info_Cell
  have h0 : ColBox w b oo (.map (some g)) (.slice b1 nl d1) (.slice b2 nw d2) (w.alloc (.cells #[.slice none 0 0, .slice none 0 0, .slice none 0 0] 149)).drew := ⟨h.2.2.1.alloc _, (below_alloc _ _).drew⟩
  have HP0 : Hid (Pre w b oo N m g (.slice b1 nl d1) (.slice b2 nw d2) (w.alloc (.cells #[.slice none 0 0, .slice none 0 0, .slice none 0 0] 149)).drew) := ⟨h.2.2.1.alloc _, h.2.2.2.1.later (w' := (w.alloc (.cells #[.slice none 0 0, .slice none 0 0, .slice none 0 0] 149)).drew) (below_alloc _ _).drew, h.2.2.2.1.lt, Blk3.new w _ _ _ _, h.2.2.1.lt, (below_alloc _ _).drew⟩
  have HPB : Hid (Pre w b oo N m g (.slice b1 nl d1) (.slice b2 nw d2) ((w.alloc (.cells #[.slice none 0 0, .slice none 0 0, .slice none 0 0] 149)).alloc (.cells #[.slice none 0 0, .slice none 0 0, .slice none 0 0] 149)).drew) := ⟨(h.2.2.1.alloc _).alloc _, h.2.2.2.1.later (w' := ((w.alloc (.cells #[.slice none 0 0, .slice none 0 0, .slice none 0 0] 149)).alloc (.cells #[.slice none 0 0, .slice none 0 0, .slice none 0 0] 149)).drew) ((below_alloc _ _).alloc (by simp) _).drew, h.2.2.2.1.lt, (Blk3.new w _ _ _ _).alloc _, h.2.2.1.lt, ((below_alloc _ _).alloc (by simp) _).drew⟩
  have HBB : Hid (Blk3 ((w.alloc (.cells #[.slice none 0 0, .slice none 0 0, .slice none 0 0] 149)).alloc (.cells #[.slice none 0 0, .slice none 0 0, .slice none 0 0] 149)).drew (w.heap.size + 1) (.slice none 0 0) (.slice none 0 0) (.slice none 0 0)) := by have := Blk3.new (w.alloc (.cells #[.slice none 0 0, .slice none 0 0, .slice none 0 0] 149)) (.slice none 0 0) (.slice none 0 0) (.slice none 0 0) 149; rw [World.size_alloc] at this; exact this
  clear h hM
  go_enter Tryz.func93, Tryz.ntmps93
  go_wp2_with fail
  rename_i Kr hKr
  have rest : Hid (∀ (b3 : Nat) (e1 : Option Addr) (f1 : Nat) (e2 : Option Addr) (f2 : Nat) (y : World), Leaf w b oo N m nl l nw k g (.slice b1 nl d1) (.slice b2 nw d2) b3 (.slice none 0 0) (.slice e1 nl f1) (.slice e2 nw f2) (.slice e1 nl f1) (.slice e2 nw f2) y → Kr ⟨#[.pointer (some ⟨b, oo, none⟩), undef, .pointer (some ⟨w.heap.size, 0, none⟩), .pointer (some ⟨b3, 0, none⟩), undef, undef, .pointer (some ⟨b, oo, none⟩), .pointer (some ⟨b, oo, none⟩), .pointer (some ⟨b, oo + 1, none⟩), .slice b1 nl d1, .slice e1 nl f1, .pointer (some ⟨b, oo, none⟩), .pointer (some ⟨b, oo, none⟩), .pointer (some ⟨b, oo + 2, none⟩), .slice b2 nw d2, .slice e2 nw f2, .agg #[.slice none 0 0, .slice e1 nl f1, .slice e2 nw f2], undef, undef, undef, undef, undef, undef, undef, undef, undef, undef, undef, undef, undef, undef, undef, undef, undef, undef, undef, undef, undef, undef, undef, undef, undef], []⟩ y) := by
    intro b3 e1 f1 e2 f2 y hLf
    refine hKr _ _ ?_
    clear hKr h0 HP0 HPB HBB H1 H2
    have HLf : Hid (Leaf w b oo N m nl l nw k g (.slice b1 nl d1) (.slice b2 nw d2) b3 (.slice none 0 0) (.slice e1 nl f1) (.slice e2 nw f2) (.slice e1 nl f1) (.slice e2 nw f2) y) := hLf
    have p0 := hLf.cols.1.1
    have hP := hLf.pm
    clear hLf
    go_wp2_with (first | (at_range; refine wpList_prange _ rfl _ rfl g N m rfl hP ?_; intro w0 cnt hcnt hPR hB0 hs0) | go_in)
    go_frame
    have HL0 : Hid (Leaf w b oo N m nl l nw k g (.slice b1 nl d1) (.slice b2 nw d2) b3 (.slice none 0 0) (.slice e1 nl f1) (.slice e2 nw f2) (.slice e1 nl f1) (.slice e2 nw f2) w0) := HLf.out.later hB0
    have hbr : b3 < y.heap.size := HLf.out.own.lt
    obtain ⟨r, hr⟩ : ∃ r, y.heap.size = r := ⟨_, rfl⟩
    rw [hr] at hPR hs0 hbr
    rw [hr]
    have hg3 : g < b3 := by have := HLf.out.gl; have := HLf.out.lo; omega
    have hlo := HLf.out.lo
    have HY : Hid ((∀ q, (Value.slice e1 nl f1).ownBlock = some q → q < r) ∧ ∀ q, (Value.slice e2 nw f2).ownBlock = some q → q < r) := ⟨fun q e => by have := (HLf.out.s1.block q e).2; omega, fun q e => by have := (HLf.out.s2.block q e).2; omega⟩
    clear p0 hP hB0 HLf hr
    go_loopw [5] (fun _ wr => ∃ (left : Int → Int → Bool) (cnt : Nat) (v : Value) (L : List (List Int)), Hid (Rnd w w0 g r N m b3 (.slice e1 nl f1) (.slice e2 nw f2) left cnt v L wr)) (fun _ wr => wr.rangeLeft g r)
    case atStart => exact ⟨_, cnt, .slice none 0 0, [], hPR, ⟨⟨rfl, rfl, rfl⟩, by omega, fun _ _ _ _ => rfl⟩, HL0.out.own, OwnM.nil _ _ _ _, Col3.start m, by simpa using hcnt⟩
    case round =>
      clear hPR hcnt
      obtain ⟨left, cnt1, v, L, HR⟩ := hrel
      obtain ⟨ao, cp, rfl⟩ := HR.out.row.form
      have hpr := HR.out.pr
      have hcl : ∀ x y, Wf x → Wf y → left x y = true → (m x y).isSome = true := fun x y _ _ q => HR.out.col.2.2.2 x y q
      go_wp2_with (first | (at_next; refine wpList_pnext _ rfl _ rfl g r N m left cnt1 rfl hpr hcl ?_ ?_) | go_in)
      · intro hdone
        have hsr := HM.out.sorted HR.out.col hdone
        obtain ⟨rfl, hsr2⟩ := hsr
        have HSR : Hid (∀ d : Array (List Int), d.size = L.length → d.toList.Perm (rowD 3 L.length (fun p => L.flatten.getD p 0)).toList → SortedIn (ltOf (cf2 (fun x => x.getD 0 0) (fun x => x.getD 1 0))) 0 L.length d → ∀ t, t < L.length * 3 → rowF 3 d t = c t) := hsr2
        have HO : Hid (Row wr (r + 1) 3 L.length (fun p => L.flatten.getD p 0) (.slice ao L.length cp) ∧ Free wr (L.length * 3) (.slice ao L.length cp)) := (HR.out.row.own (flatten_len L HR.out.col.len)).row
        have t0 := HR.out.own.1.1
        have hlN : L.length ≤ 400 := by have := HR.out.len; omega
        clear hdone hpr hcl hsr2
        go_wp2_with fail
        refine (sortCell_any (r + 1) L.length _ _ _ HO.out.1 HO.out.2 (by omega)).mono ?_
        rintro e w5 ⟨rfl, d, hd1, ⟨hd2, hd3⟩, hrow5, hg5⟩
        have hturn : ∀ q, turn L.length (.slice ao L.length cp) = some q → r + 1 ≤ q := turn_off (fun _ kk hk => (HR.out.row.block kk hk).1)
        have hsam := HR.out.sam.step hg5 (fun q e => Or.inr (Or.inr (hturn q e)))
        have hB5 := HR.out.own.kept (hg5.block b3 HR.out.own.lt (fun e => by have := hturn b3 e.symm; omega))
        have hres := HL0.out.res.kept (hsam.2.2 w.heap.size (by omega) (by omega) (by omega))
        have hk1 := HL0.out.s1.kept (fun q hq => hsam.2.2 q (by have := HY.out.1 q hq; omega) (fun e => HL0.out.a1 (by rw [hq, e])) (by have := HY.out.1 q hq; omega))
        have hk2 := HL0.out.s2.kept (fun q hq => hsam.2.2 q (by have := HY.out.2 q hq; omega) (fun e => HL0.out.a2 (by rw [hq, e])) (by have := HY.out.2 q hq; omega))
        have HBW : Hid (Below w.heap.size w w5) := ⟨hsam.1.1.trans HL0.out.below.os, hsam.1.2.1.trans HL0.out.below.tape, hsam.1.2.2.trans HL0.out.below.output, by have := hsam.2.1; omega, fun i hi => (hsam.2.2 i (by omega) (by omega) (by omega)).trans (HL0.out.below.block i hi)⟩
        have HK : Hid ((Row w5 (r + 1) 3 L.length c (.slice ao L.length cp) ∧ Free w5 (L.length * 3) (.slice ao L.length cp)) ∧ (Own w5 (w.heap.size + 1) 209 5 nl l (.slice e1 nl f1) ∧ Own w5 (w.heap.size + 1) 211 4 nw k (.slice e2 nw f2))) := ⟨⟨hrow5.1.congr (HSR.out d hd1 hd2 hd3), hrow5.2⟩, hk1, hk2⟩
        have HAP : Hid (ApartD ⟨L.length, c, nl, l, nw, k⟩ (.slice ao L.length cp) (.slice e1 nl f1) (.slice e2 nw f2)) := apart_mk HK.out.1.1 hk1.row.1 (fun i j hi hj => by have := (HR.out.row.block i hi).1; have := HY.out.1 j hj; omega) (fun i j hi hj => by have := (HR.out.row.block i hi).1; have := HY.out.2 j hj; omega) (fun i j hi hj e => HL0.out.a12 i hi (by rw [hj, e]))
        obtain ⟨⟨y0, y1, y2⟩, _⟩ := hB5
        obtain ⟨⟨s0, s1, s2⟩, g0, g1, g2⟩ := hres
        have hlw : w.heap.size < w.heap.size + 1 := Nat.lt_succ_self _
        have hlr : w.heap.size < r + 1 := by omega
        clear t0 hd1 hd2 hd3 hrow5 hg5 hturn hsam hk1 hk2 HSR HO HR
        go_wp2
        exact bodyPost_ret (v := .agg #[.slice ao L.length cp, .slice e1 nl f1, .slice e2 nw f2]) (by simp [results, Tryz.results93, go_sem, s0, s1, s2]) rfl ⟨ao, cp, e1, f1, e2, f2, rfl, ⟨⟨(((HK.out.1.1.far (Or.inl hlr) _).far (Or.inl hlr) _).far (Or.inl hlr) _).mono (by omega), (((HK.out.2.1.row.1.far (Or.inl hlw) _).far (Or.inl hlw) _).far (Or.inl hlw) _).mono (by omega), (((HK.out.2.2.row.1.far (Or.inl hlw) _).far (Or.inl hlw) _).far (Or.inl hlw) _).mono (by omega)⟩, ⟨((HK.out.1.2.far _ _).far _ _).far _ _, ((HK.out.2.1.row.2.far _ _).far _ _).far _ _, ((HK.out.2.2.row.2.far _ _).far _ _).far _ _⟩, HAP.out⟩, ((HBW.out.setCell (Nat.le_refl _) _).setCell (Nat.le_refl _) _).setCell (Nat.le_refl _) _⟩
      · intro p q cc w1 cnt2 hx hy hc hlf hm hPR1 hlt hg1 hs1 hen
        have HN := HR.out.next hbr hPR1 hg1
        have hcl1 := HR.out.col
        have hlen : L.length + 1 + cnt2 ≤ N := by have := HR.out.len; omega
        have HLT : Hid (cnt2 < wr.rangeLeft g r) := by unfold Hid; rw [HR.out.pr.left_eq]; exact hlt
        have HX : Hid (((Wf p ∧ Wf q) ∧ left p q = true ∧ m p q = some cc) ∧ Col3 m left L) := ⟨⟨⟨hx, hy⟩, hlf, hm⟩, hcl1⟩
        have t0 := HN.2.1.1.1
        have zb : b3 < w1.heap.size := HN.2.1.lt
        have hbl := (below_alloc w1 (.cells #[.int .i64 p, .int .i64 q] 200)).alloc (by simp) (.cells #[.int .i64 p, .int .i64 q, .int .i64 cc] 202)
        have HN2 : Hid ((PR ((w1.alloc (.cells #[.int .i64 p, .int .i64 q] 200)).alloc (.cells #[.int .i64 p, .int .i64 q, .int .i64 cc] 202)) g r N m (strike left p q) cnt2 ∧ Sam w0 ((w1.alloc (.cells #[.int .i64 p, .int .i64 q] 200)).alloc (.cells #[.int .i64 p, .int .i64 q, .int .i64 cc] 202)) (r + 1) b3 r) ∧ Blk3 ((w1.alloc (.cells #[.int .i64 p, .int .i64 q] 200)).alloc (.cells #[.int .i64 p, .int .i64 q, .int .i64 cc] 202)) b3 (.slice ao L.length cp) (.slice e1 nl f1) (.slice e2 nw f2) ∧ OwnM ((w1.alloc (.cells #[.int .i64 p, .int .i64 q] 200)).alloc (.cells #[.int .i64 p, .int .i64 q, .int .i64 cc] 202)) (r + 1) 202 3 (.slice ao L.length cp) L.length L.flatten) := ⟨⟨HN.1.1.later hbl, HN.1.2.later hbl⟩, HN.2.1.later hbl, HN.2.2.later hbl⟩
        have hown := HN2.out.2.2
        clear hpr hcl HR hPR1 hg1 hlt hs1 HN hcl1 hx hy hlf hm hbl hc
        go_wp2_with (at_builtin; refine wpList_append_own _ rfl _ _ 145 rfl (r + 1) 202 i0 (.agg #[.int .i64 0, .int .i64 0, .int .i64 0]) 3 24 Tryz.underlying145 hi hz0 hz1 hz2 rfl (by decide) _ _ _ rfl hown ⟨_, 0, none⟩ 1 1 [.int .i64 p, .int .i64 q, .int .i64 cc] rfl rfl ?c1 ?c2 ?c3 ?c4 ?c5 ?_)
        case c1 =>
          intro j u hj
          match j, hj with
          | 0, hj => simp at hj; subst hj; simp [Addr.add]
          | 1, hj => simp at hj; subst hj; simp [Addr.add]
          | 2, hj => simp at hj; subst hj; simp [Addr.add]
        case c2 =>
          intro u hu
          simp at hu
          rcases hu with rfl | rfl | rfl <;> rfl
        case c3 => unfold maxLen; omega
        case c4 => omega
        case c5 => exact HN2.out.1.2.2.1
        intro v' w2 ho hg2 _
        rw [← List.map_flatten] at ho
        obtain ⟨ao', cp', rfl⟩ := (show OwnM w2 (r + 1) 202 3 v' (L.length + 1) (L.flatten ++ [p, q, cc]) from by unfold OwnM; rw [List.map_append]; exact ho).form
        have hvb : ∀ j, (Value.slice ao L.length cp).ownBlock = some j → r + 1 ≤ j := fun j hj => (HN2.out.2.2.block j hj).1
        have hB3 := HN2.out.2.1.kept (hg2.block b3 HN2.out.2.1.lt (fun e => by have := hvb b3 e.symm; omega))
        have HRn : Hid (Rnd w w0 g r N m b3 (.slice e1 nl f1) (.slice e2 nw f2) (strike left p q) cnt2 (.slice ao' (L.length + 1) cp') (L ++ [[p, q, cc]]) (w2.setCell ⟨b3, 0, none⟩ (.slice ao' (L.length + 1) cp'))) := Rnd.put hg3 hbr HN2.out HX.out.2 HX.out.1.1.1 HX.out.1.1.2 HX.out.1.2.1 HX.out.1.2.2 hlen ho hg2
        obtain ⟨⟨y0, _, _⟩, z0, _, _⟩ := hB3
        clear ho hg2 hvb hown HN2 t0 HX
        go_wp2
        go_roundw
        case rel => exact ⟨_, _, _, _, HRn⟩
        case measure => rw [HRn.out.pr.left_eq]; exact HLT.out
  refine wp_region_held_drew (S := ColBox w b oo (.map (some g)) (.slice b1 nl d1) (.slice b2 nw d2)) (by kernel_rfl) h0 (fun hS => ?_)
  clear h0
  refine tkH 0 ?_ hS (fun wx hx => ?_) ?_; rotate_left
  · obtain ⟨⟨⟨hx0, hx1, hx2⟩, _⟩, _⟩ := hx; go_simp; try with_reducible rfl
  refine tkH 1 ?_ hS (fun wx hx => ?_) ?_; rotate_left
  · obtain ⟨⟨⟨hx0, hx1, hx2⟩, _⟩, _⟩ := hx; go_simp; try with_reducible rfl
  refine tkH 2 ?_ hS (fun wx hx => ?_) ?_; rotate_left
  · obtain ⟨⟨⟨hx0, hx1, hx2⟩, _⟩, _⟩ := hx; go_simp; try with_reducible rfl
  refine tkH 3 ?_ hS (fun wx hx => ?_) ?_; rotate_left
  · obtain ⟨⟨⟨hx0, hx1, hx2⟩, _⟩, _⟩ := hx; go_simp; try with_reducible rfl
  refine tkH 5 ?_ hS (fun wx hx => ?_) ?_; rotate_left
  · obtain ⟨⟨⟨hx0, hx1, hx2⟩, _⟩, _⟩ := hx; go_simp; try with_reducible rfl
  refine tkH 6 ?_ hS (fun wx hx => ?_) ?_; rotate_left
  · obtain ⟨⟨⟨hx0, hx1, hx2⟩, _⟩, _⟩ := hx; go_simp; try with_reducible rfl
  refine tkH 7 ?_ hS (fun wx hx => ?_) ?_; rotate_left
  · obtain ⟨⟨⟨hx0, hx1, hx2⟩, _⟩, _⟩ := hx; go_simp; try with_reducible rfl
  refine tkH 8 ?_ hS (fun wx hx => ?_) ?_; rotate_left
  · obtain ⟨⟨⟨hx0, hx1, hx2⟩, _⟩, _⟩ := hx; go_simp; try with_reducible rfl
  refine wpAnyH_ready (rs := [4, 11]) (by kernel_rfl) (by simp) ?_
  refine AllReadyH.cons rfl (fun K hK => ?_) (AllReadyH.cons rfl (fun K hK => ?_) AllReadyH.nil)
  · refine step_copy (by rfl) _ 146 (by rfl) 209 i1 (.agg #[.int .i64 0, .int .i64 0, .int .i64 0, .int .i64 0, .int .i64 0]) 5 40 Tryz.underlying146 hi1 hz01 hz11 hz21 rfl (by omega) (by omega) _ B nl l (.slice b1 nl d1) (by rfl) (H1.out.later (w' := (w.alloc (.cells #[.slice none 0 0, .slice none 0 0, .slice none 0 0] 149)).drew) (below_alloc _ _).drew) (by omega) ?_
    intro r1 wA ho1 hb1
    obtain ⟨e1, f1, rfl⟩ := ho1.form
    have hS' := hS.later hb1
    have HP1 : Hid (Pre w b oo N m g (.slice b1 nl d1) (.slice b2 nw d2) wA) := HP0.out.later hb1
    have HO1 : Hid (Own wA (w.heap.size + 1) 209 5 nl l (.slice e1 nl f1)) := by rw [size_drew] at ho1; exact ho1
    have zA : Hid (w.heap.size + 1 ≤ wA.heap.size) := by have := hb1.size; rw [size_drew] at this; exact this
    clear ho1 hb1
    go_simp
    refine hK.out _ _ hS' (fun hS => ?_)
    clear hK K hS'
    refine wpAnyH_ready (rs := [9, 11]) (by kernel_rfl) (by simp) ?_
    refine AllReadyH.cons rfl (fun K hK => ?_) (AllReadyH.cons rfl (fun K hK => ?_) AllReadyH.nil)
    · refine step_copy (by rfl) _ 147 (by rfl) 211 i2 (.agg #[.int .i64 0, .int .i64 0, .int .i64 0, .int .i64 0]) 4 32 Tryz.underlying147 hi2 hz02 hz12 hz22 rfl (by omega) (by omega) _ B nw k (.slice b2 nw d2) (by rfl) (H2.out.later HP1.out.below) (by omega) ?_
      intro r2 wB ho2 hb2
      obtain ⟨e2, f2, rfl⟩ := ho2.form
      have hS' := hS.later hb2
      have HP2 : Hid (Pre w b oo N m g (.slice b1 nl d1) (.slice b2 nw d2) wB) := HP1.out.later hb2
      have HLf : Hid (Leaf w b oo N m nl l nw k g (.slice b1 nl d1) (.slice b2 nw d2) wB.heap.size (.slice none 0 0) (.slice e1 nl f1) (.slice e2 nw f2) (.slice e1 nl f1) (.slice e2 nw f2) (wB.alloc (.cells #[.slice none 0 0, .slice e1 nl f1, .slice e2 nw f2] 149))) :=
        (HP2.out.later (below_alloc wB (.cells #[.slice none 0 0, .slice e1 nl f1, .slice e2 nw f2] 149))).leaf (Blk3.new wB _ _ _ _) (by have := zA.out; have := hb2.size; omega) ((HO1.out.later hb2).alloc _) ((ho2.mono zA.out).alloc _) (fun j hj => by have := HO1.out.block j hj; have := hb2.size; omega) (fun j hj => by have := ho2.block j hj; omega) (fun i j hi hj => by have := HO1.out.block i hi; have := ho2.block j hj; omega)
      clear ho2 hb2 HP1 HO1 zA
      go_simp
      refine hK.out _ _ hS' (fun hS => ?_)
      clear hK K hS'
      refine tkH 10 ?_ hS (fun wx hx => ?_) ?_; rotate_left
      · obtain ⟨⟨⟨hx0, hx1, hx2⟩, _⟩, _⟩ := hx; go_simp; try with_reducible rfl
      refine rdH 11 (fun K hK => ?_)
      go_simp
      refine hK.out _ _ (hS.later (below_alloc _ _)) (fun hS => ?_)
      clear hK K
      refine rdH 12 (fun K hK => ?_)
      go_simp
      refine hK.out _ _ ⟨HLf.out.cols, HLf.out.below⟩ (fun hS => ?_)
      clear hK K hS HP2
      refine wpAnyH_done (by kernel_rfl) ?_ _
      go_simp
      exact rest.out _ _ _ _ _ _ HLf.out
    · have hS' := hS.later (below_alloc wA (.cells #[.slice none 0 0, .slice none 0 0, .slice none 0 0] 149))
      have HP2 : Hid (Pre w b oo N m g (.slice b1 nl d1) (.slice b2 nw d2) (wA.alloc (.cells #[.slice none 0 0, .slice none 0 0, .slice none 0 0] 149))) := HP1.out.later (below_alloc wA (.cells #[.slice none 0 0, .slice none 0 0, .slice none 0 0] 149))
      have HO2 : Hid (Own (wA.alloc (.cells #[.slice none 0 0, .slice none 0 0, .slice none 0 0] 149)) (w.heap.size + 1) 209 5 nl l (.slice e1 nl f1)) := HO1.out.alloc _
      go_simp
      refine hK.out _ _ hS' (fun hS => ?_)
      clear hK K hS'
      refine rdH 9 (fun K hK => ?_)
      refine step_copy (by rfl) _ 147 (by rfl) 211 i2 (.agg #[.int .i64 0, .int .i64 0, .int .i64 0, .int .i64 0]) 4 32 Tryz.underlying147 hi2 hz02 hz12 hz22 rfl (by omega) (by omega) _ B nw k (.slice b2 nw d2) (by rfl) (H2.out.later HP2.out.below) (by omega) ?_
      intro r2 wC ho2 hb2
      obtain ⟨e2, f2, rfl⟩ := ho2.form
      have hS' := hS.later hb2
      rw [World.size_alloc] at ho2
      have HLf : Hid (Leaf w b oo N m nl l nw k g (.slice b1 nl d1) (.slice b2 nw d2) wA.heap.size (.slice none 0 0) (.slice none 0 0) (.slice none 0 0) (.slice e1 nl f1) (.slice e2 nw f2) wC) :=
        (HP2.out.later hb2).leaf ((Blk3.new wA _ _ _ _).later hb2) (by have := zA.out; omega) (HO2.out.later hb2) (ho2.mono (by have := zA.out; omega)) (fun j hj => by have := HO1.out.block j hj; omega) (fun j hj => by have := ho2.block j hj; omega) (fun i j hi hj => by have := HO1.out.block i hi; have := ho2.block j hj; omega)
      clear ho2 hb2 HP1 HO1 zA HP2 HO2
      go_simp
      refine hK.out _ _ hS' (fun hS => ?_)
      clear hK K hS'
      refine tkH 10 ?_ hS (fun wx hx => ?_) ?_; rotate_left
      · obtain ⟨⟨⟨hx0, hx1, hx2⟩, _⟩, _⟩ := hx; go_simp; try with_reducible rfl
      refine rdH 12 (fun K hK => ?_)
      obtain ⟨⟨y0, y1, y2⟩, z0, z1, z2⟩ := HLf.out.own
      have HLg : Hid (Leaf w b oo N m nl l nw k g (.slice b1 nl d1) (.slice b2 nw d2) wA.heap.size (.slice none 0 0) (.slice e1 nl f1) (.slice e2 nw f2) (.slice e1 nl f1) (.slice e2 nw f2) (((wC.setCell ⟨wA.heap.size, 0, none⟩ (.slice none 0 0)).setCell ⟨wA.heap.size, 1, none⟩ (.slice e1 nl f1)).setCell ⟨wA.heap.size, 2, none⟩ (.slice e2 nw f2))) := HLf.out.put _ _ _
      go_simp
      refine hK.out _ _ ⟨HLg.out.cols, HLg.out.below⟩ (fun hS => ?_)
      clear hK K hS
      refine wpAnyH_done (by kernel_rfl) ?_ _
      go_simp
      exact rest.out _ _ _ _ _ _ HLg.out
  · have hS' : ColBox w b oo (.map (some g)) (.slice b1 nl d1) (.slice b2 nw d2) ((w.alloc (.cells #[.slice none 0 0, .slice none 0 0, .slice none 0 0] 149)).alloc (.cells #[.slice none 0 0, .slice none 0 0, .slice none 0 0] 149)).drew := ⟨HPB.out.cols, HPB.out.below⟩
    go_simp
    refine hK.out _ _ hS' (fun hS => ?_)
    clear hK K hS'
    refine rdH 4 (fun K hK => ?_)
    refine step_copy (by rfl) _ 146 (by rfl) 209 i1 (.agg #[.int .i64 0, .int .i64 0, .int .i64 0, .int .i64 0, .int .i64 0]) 5 40 Tryz.underlying146 hi1 hz01 hz11 hz21 rfl (by omega) (by omega) ((w.alloc (.cells #[.slice none 0 0, .slice none 0 0, .slice none 0 0] 149)).alloc (.cells #[.slice none 0 0, .slice none 0 0, .slice none 0 0] 149)).drew B nl l (.slice b1 nl d1) (by rfl) (H1.out.later HPB.out.below) (by omega) ?_
    intro r1 wB ho1 hb1
    obtain ⟨e1, f1, rfl⟩ := ho1.form
    have hS' := hS.later hb1
    have HP1 : Hid (Pre w b oo N m g (.slice b1 nl d1) (.slice b2 nw d2) wB) := HPB.out.later hb1
    have hX : (((w.alloc (.cells #[.slice none 0 0, .slice none 0 0, .slice none 0 0] 149)).alloc (.cells #[.slice none 0 0, .slice none 0 0, .slice none 0 0] 149)).drew).heap.size = w.heap.size + 2 := by simp
    rw [hX] at ho1
    have HO1 : Hid (Own wB (w.heap.size + 2) 209 5 nl l (.slice e1 nl f1)) := ho1
    have zB : Hid (w.heap.size + 2 ≤ wB.heap.size) := by have := hb1.size; rw [hX] at this; exact this
    have HB1 : Hid (Blk3 wB (w.heap.size + 1) (.slice none 0 0) (.slice none 0 0) (.slice none 0 0)) := HBB.out.later (x := ((w.alloc (.cells #[.slice none 0 0, .slice none 0 0, .slice none 0 0] 149)).alloc (.cells #[.slice none 0 0, .slice none 0 0, .slice none 0 0] 149)).drew) hb1
    clear ho1 hb1 hX
    go_simp
    refine hK.out _ _ hS' (fun hS => ?_)
    clear hK K hS'
    refine rdH 9 (fun K hK => ?_)
    refine step_copy (by rfl) _ 147 (by rfl) 211 i2 (.agg #[.int .i64 0, .int .i64 0, .int .i64 0, .int .i64 0]) 4 32 Tryz.underlying147 hi2 hz02 hz12 hz22 rfl (by omega) (by omega) _ B nw k (.slice b2 nw d2) (by rfl) (H2.out.later HP1.out.below) (by omega) ?_
    intro r2 wC ho2 hb2
    obtain ⟨e2, f2, rfl⟩ := ho2.form
    have hS' := hS.later hb2
    have HLf : Hid (Leaf w b oo N m nl l nw k g (.slice b1 nl d1) (.slice b2 nw d2) (w.heap.size + 1) (.slice none 0 0) (.slice none 0 0) (.slice none 0 0) (.slice e1 nl f1) (.slice e2 nw f2) wC) :=
      (HP1.out.later hb2).leaf (HB1.out.later hb2) (Nat.lt_succ_self _) ((HO1.out.later hb2).mono (by omega)) (ho2.mono (by have := zB.out; omega)) (fun j hj => by have := HO1.out.block j hj; omega) (fun j hj => by have := ho2.block j hj; have := zB.out; omega) (fun i j hi hj => by have := HO1.out.block i hi; have := ho2.block j hj; omega)
    clear ho2 hb2 HP1 HO1 zB HB1
    go_simp
    refine hK.out _ _ hS' (fun hS => ?_)
    clear hK K hS'
    refine tkH 10 ?_ hS (fun wx hx => ?_) ?_; rotate_left
    · obtain ⟨⟨⟨hx0, hx1, hx2⟩, _⟩, _⟩ := hx; go_simp; try with_reducible rfl
    refine rdH 12 (fun K hK => ?_)
    obtain ⟨⟨y0, y1, y2⟩, z0, z1, z2⟩ := HLf.out.own
    have HLg : Hid (Leaf w b oo N m nl l nw k g (.slice b1 nl d1) (.slice b2 nw d2) (w.heap.size + 1) (.slice none 0 0) (.slice e1 nl f1) (.slice e2 nw f2) (.slice e1 nl f1) (.slice e2 nw f2) (((wC.setCell ⟨w.heap.size + 1, 0, none⟩ (.slice none 0 0)).setCell ⟨w.heap.size + 1, 1, none⟩ (.slice e1 nl f1)).setCell ⟨w.heap.size + 1, 2, none⟩ (.slice e2 nw f2))) := HLf.out.put _ _ _
    go_simp
    refine hK.out _ _ ⟨HLg.out.cols, HLg.out.below⟩ (fun hS => ?_)
    clear hK K hS
    refine wpAnyH_done (by kernel_rfl) ?_ _
    go_simp
    exact rest.out _ _ _ _ _ _ HLg.out
end Go.Proofs.YtphfiojhpfdpdaaGreat

