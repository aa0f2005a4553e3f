/-
  Own text, merged of ColsX, ColsY, StorB, StorD.
-/
import Derived.Test.YtgedodcojalidaaGreatPk4
namespace Go.Proofs.YtgedodcojalidaaGreat
section
open Go.RowKit Go.Maps
theorem all_next {p : Nat → Prop} {k : Nat} (h : ∀ j, j < k → p j) (q : p k) : ∀ j, j < k + 1 → p j := fun j hj => by
  rcases Nat.lt_or_ge j k with e | e
  · exact h j e
  · obtain rfl : j = k := by omega
    exact q
/-- The places of the puts among the first k structs (m numbers each; number kd the kind, number st the start). -/
def selP (F : Nat → Int) (m kd st : Nat) : Nat → List (Int × Int)
  | 0 => []
  | k + 1 => selP F m kd st k ++ (if F (k * m + kd) = 1 then [(F (k * m), F (k * m + st))] else [])
theorem selP_yes {F : Nat → Int} {m kd st k : Nat} (h : F (k * m + kd) = 1) : selP F m kd st (k + 1) = selP F m kd st k ++ [(F (k * m), F (k * m + st))] := by rw [selP, if_pos h]
theorem selP_no {F : Nat → Int} {m kd st k : Nat} (h : F (k * m + kd) ≠ 1) : selP F m kd st (k + 1) = selP F m kd st k := by rw [selP, if_neg h, List.append_nil]
theorem selP_le (F : Nat → Int) (m kd st : Nat) : ∀ k, (selP F m kd st k).length ≤ k
  | 0 => Nat.le_refl _
  | k + 1 => by
    have ih := selP_le F m kd st k
    by_cases h : F (k * m + kd) = 1
    · rw [selP_yes h, List.length_append, List.length_singleton]; omega
    · rw [selP_no h]; omega
theorem selP_mem {F : Nat → Int} {m kd st : Nat} (x y : Int) : ∀ k, (x, y) ∈ selP F m kd st k ↔ ∃ i, i < k ∧ F (i * m + kd) = 1 ∧ F (i * m) = x ∧ F (i * m + st) = y
  | 0 => by simp [selP]
  | k + 1 => by
    have ih := selP_mem (F := F) (m := m) (kd := kd) (st := st) x y k
    by_cases h : F (k * m + kd) = 1
    · rw [selP_yes h, List.mem_append, ih, List.mem_singleton, Prod.mk.injEq]
      constructor
      · rintro (⟨i, hi, r⟩ | ⟨rfl, rfl⟩)
        · exact ⟨i, by omega, r⟩
        · exact ⟨k, by omega, h, rfl, rfl⟩
      · rintro ⟨i, hi, r, rx, ry⟩
        by_cases e : i = k
        · subst e; exact Or.inr ⟨rx.symm, ry.symm⟩
        · exact Or.inl ⟨i, by omega, r, rx, ry⟩
    · rw [selP_no h, ih]
      constructor
      · rintro ⟨i, hi, r⟩; exact ⟨i, by omega, r⟩
      · rintro ⟨i, hi, r⟩
        by_cases e : i = k
        · subst e; exact absurd r.1 h
        · exact ⟨i, by omega, r⟩
/-- The numbers of a list of pairs. -/
def flat : List (Int × Int) → List Int
  | [] => []
  | p :: t => p.1 :: p.2 :: flat t
theorem flat_append (a b : List (Int × Int)) : flat (a ++ b) = flat a ++ flat b := by
  induction a with
  | nil => rfl
  | cons p t ih => simp [flat, ih]
theorem flat_length (a : List (Int × Int)) : (flat a).length = a.length * 2 := by
  induction a with
  | nil => rfl
  | cons p t ih => simp [flat, ih]; omega
theorem flat_at (a : List (Int × Int)) (i : Nat) (hi : i < a.length) : (flat a).getD (i * 2) 0 = (a[i]'hi).1 ∧ (flat a).getD (i * 2 + 1) 0 = (a[i]'hi).2 := by
  induction a generalizing i with
  | nil => simp at hi
  | cons p t ih =>
    match i, hi with
    | 0, _ => exact ⟨rfl, rfl⟩
    | i + 1, hi =>
      have := ih i (by simpa using hi)
      rw [show (i + 1) * 2 = i * 2 + 1 + 1 by omega]
      exact this
/-- A row of places that a call has made since w. -/
def Plc (w : World) (v : Value) (P : List (Int × Int)) (x : World) : Prop := OwnM x w.heap.size 76 2 v P.length (flat P) ∧ Below w.heap.size w x
theorem Plc.later {w x x' : World} {v : Value} {P : List (Int × Int)} (h : Plc w v P x) (hb : Below x.heap.size x x') : Plc w v P x' := ⟨h.1.later hb, h.2.trans (hb.mono h.2.size)⟩
theorem Plc.form {w x : World} {v : Value} {P : List (Int × Int)} (h : Plc w v P x) : ∃ ao cp, v = .slice ao P.length cp := h.1.form
theorem Plc.step {w x x' : World} {v v' : Value} {P : List (Int × Int)} {a b : Int} (h : Plc w v P x) (ho : x'.ownsRow w.heap.size 76 2 v' (P.length + 1) ((flat P).map (Value.int .i64) ++ [.int .i64 a, .int .i64 b])) (hg : x.grownBy x' v.ownBlock) : Plc w v' (P ++ [(a, b)]) x' := by
  refine ⟨?_, below_grownBy h.2 h.2.size (fun bb hbb => (h.1.block bb hbb).1) hg⟩
  unfold OwnM
  rw [flat_append, List.map_append, List.length_append]
  exact ho
theorem Plc.row {w x : World} {v : Value} {P : List (Int × Int)} (h : Plc w v P x) : Row x w.heap.size 2 P.length (fun p => (flat P).getD p 0) v := (h.1.own (flat_length P)).row.1
theorem infoz_place : (Tryz.prog.info? 76).map (fun i => (i.zero, i.size, i.bytes)) = some (some (.agg #[.int .i64 0, .int .i64 0]), 2, 16) := by kernel_rfl
def putP (nl : Nat) (l : Nat → Int) (nw : Nat) (k : Nat → Int) : List (Int × Int) := selP l 5 2 1 nl ++ selP k 4 3 2 nw
set_option maxRecDepth 100000 in
set_option maxHeartbeats 4000000 in
theorem putPlaces_any (nl : Nat) (l : Nat → Int) (nw : Nat) (kk : Nat → Int) (B : Nat) (v1 v2 : Value) (w : World) (h1 : Row w B 5 nl l v1) (h2 : Row w B 4 nw kk v2) (hl : nl ≤ 200) (hk : nw ≤ 200) :
    Calls Tryz.prog 60 #[v1, v2] w fun e w' => ∃ v, e = .returned v ∧ Plc w v (putP nl l nw kk) w' := by
  unfold putP
  obtain ⟨a1, c1, rfl⟩ := h1.form
  obtain ⟨a2, c2, rfl⟩ := h2.form
  have H1 : Hid (Row w B 5 nl l (.slice a1 nl c1)) := h1
  have H2 : Hid (Row w B 4 nw kk (.slice a2 nw c2)) := h2
  obtain ⟨i0, hi, hz0, hz1, hz2⟩ := info_parts infoz_place
  have HS0 : Hid (Plc w (.slice none 0 0) (selP l 5 2 1 0) w) := ⟨OwnM.nil _ _ _ _, Below.refl _ _⟩
  clear h1 h2
  go_enter Tryz.func60, Tryz.ntmps60
  go_wp2
  go_loopw [5, 12] (fun v i wr => ∃ (k : Nat), k ≤ nl ∧ i = .int .i64 k ∧ Hid (Plc w v (selP l 5 2 1 k) wr)) (fun _ i _ => nl - (intOf i).toNat)
  case atStart => exact ⟨0, Nat.zero_le _, rfl, HS0⟩
  case round =>
    clear HS0
    obtain ⟨k, hk, rfl, HS⟩ := hrel
    obtain ⟨ao, cp, rfl⟩ := HS.out.form
    by_cases hlt : k < nl
    case neg =>
      obtain rfl : nl = k := by omega
      have HS1 : Hid (Plc w (.slice ao (selP l 5 2 1 nl).length cp) (selP l 5 2 1 nl ++ selP kk 4 3 2 0) wr) := by
        unfold Hid
        rw [show selP kk 4 3 2 0 = [] from rfl, List.append_nil]
        exact HS.out
      clear HS
      go_wp2
      go_loopw [5, 30] (fun v i wr => ∃ (k : Nat), k ≤ nw ∧ i = .int .i64 k ∧ Hid (Plc w v (selP l 5 2 1 nl ++ selP kk 4 3 2 k) wr)) (fun _ i _ => nw - (intOf i).toNat)
      case atStart => exact ⟨0, Nat.zero_le _, rfl, HS1⟩
      case round =>
        clear HS1
        obtain ⟨k, hk, rfl, HS⟩ := hrel
        obtain ⟨ao, cp, rfl⟩ := HS.out.form
        by_cases hlt : k < nw
        case neg =>
          obtain rfl : nw = k := by omega
          go_wp2
          go_ret
          exact ⟨_, rfl, HS.out⟩
        obtain ⟨g, o, rfl, _, hg, x0, x1, x2, x3⟩ := (H2.out.later HS.out.2).at4 hlt
        obtain ⟨n0, N0⟩ : ∃ x, kk (k * 4) = x := ⟨_, rfl⟩
        rw [N0] at x0
        obtain ⟨n1, N1⟩ : ∃ x, kk (k * 4 + 1) = x := ⟨_, rfl⟩
        rw [N1] at x1
        obtain ⟨n2, N2⟩ : ∃ x, kk (k * 4 + 2) = x := ⟨_, rfl⟩
        rw [N2] at x2
        obtain ⟨n3, N3⟩ : ∃ x, kk (k * 4 + 3) = x := ⟨_, rfl⟩
        rw [N3] at x3
        have hP2 : Hid (Plc w (.slice ao (selP l 5 2 1 nl ++ selP kk 4 3 2 k).length cp) (selP l 5 2 1 nl ++ selP kk 4 3 2 k) (wr.alloc (.cells #[.int .i64 n0, .int .i64 n1, .int .i64 n2, .int .i64 n3] 36))) := HS.out.later (below_alloc _ _)
        by_cases hp : n3 = 1
        case neg =>
          have hd : (n3 == 1) = false := beq_eq_false_iff_ne.2 hp
          have E : Hid (Plc w (.slice ao (selP l 5 2 1 nl ++ selP kk 4 3 2 k).length cp) (selP l 5 2 1 nl ++ selP kk 4 3 2 (k + 1)) (wr.alloc (.cells #[.int .i64 n0, .int .i64 n1, .int .i64 n2, .int .i64 n3] 36))) := by
            unfold Hid
            rw [selP_no (by rw [N3]; exact hp)]
            exact hP2.out
          clear N0 N1 N2 N3 hp HS hP2
          go_wp2
          go_roundw
          case rel => exact ⟨k + 1, by omega, by go_num, E⟩
          case measure => simp [intOf]; omega
        subst hp
        have HL : Hid ((selP l 5 2 1 nl ++ selP kk 4 3 2 (k + 1)) = (selP l 5 2 1 nl ++ selP kk 4 3 2 k) ++ [(n0, n2)]) := by
          unfold Hid
          rw [selP_yes (by rw [N3])]
          rw [N0, N2, List.append_assoc]
        have hnle : (selP l 5 2 1 nl ++ selP kk 4 3 2 k).length ≤ 400 := by
          rw [List.length_append]
          have q0 := selP_le l 5 2 1 nl
          have q1 := selP_le kk 4 3 2 k
          omega
        obtain ⟨PP, hPP⟩ : ∃ PP, (selP l 5 2 1 nl ++ selP kk 4 3 2 k) = PP := ⟨_, rfl⟩
        rw [hPP] at HL hP2 hnle HS
        rw [hPP]
        have hP3 : Hid (Plc w (.slice ao PP.length cp) PP ((wr.alloc (.cells #[.int .i64 n0, .int .i64 n1, .int .i64 n2, .int .i64 1] 36)).alloc (.cells #[.int .i64 n0, .int .i64 n2] 76))) := hP2.out.later (below_alloc _ _)
        have hown := hP3.out.1
        have hsz : w.heap.size ≤ wr.heap.size := HS.out.2.size
        clear N0 N1 N2 N3 HS hP2 hPP
        go_wp2_with (at_builtin; refine wpList_append_own _ rfl _ _ 92 rfl w.heap.size 76 i0 (.agg #[.int .i64 0, .int .i64 0]) 2 16 Tryz.underlying92 hi hz0 hz1 hz2 rfl (by decide) _ _ _ rfl hown ⟨_, 0, none⟩ 1 1 [.int .i64 n0, .int .i64 n2] rfl rfl ?c1 ?c2 ?c3 ?c4 ?c5 ?_)
        case c1 =>
          intro q u hq
          match q, hq with
          | 0, hq => simp at hq; subst hq; simp [Addr.add]
          | 1, hq => simp at hq; subst hq; simp [Addr.add]
        case c2 =>
          intro u hu
          simp at hu
          rcases hu with rfl | rfl <;> rfl
        case c3 => unfold maxLen; omega
        case c4 => omega
        case c5 => simp; omega
        intro v' w2 ho hg2 _
        have E2 : Hid (Plc w v' (selP l 5 2 1 nl ++ selP kk 4 3 2 (k + 1)) w2) := by
          unfold Hid
          rw [HL.out]
          exact hP3.out.step ho hg2
        clear ho hg2 hown hP3 HL
        go_wp2
        go_roundw
        case rel => exact ⟨k + 1, by omega, by go_num, E2⟩
        case measure => simp [intOf]; omega
    obtain ⟨g, o, rfl, _, hg, x0, x1, x2, x3, x4⟩ := (H1.out.later HS.out.2).at5 hlt
    obtain ⟨n0, N0⟩ : ∃ x, l (k * 5) = x := ⟨_, rfl⟩
    rw [N0] at x0
    obtain ⟨n1, N1⟩ : ∃ x, l (k * 5 + 1) = x := ⟨_, rfl⟩
    rw [N1] at x1
    obtain ⟨n2, N2⟩ : ∃ x, l (k * 5 + 2) = x := ⟨_, rfl⟩
    rw [N2] at x2
    obtain ⟨n3, N3⟩ : ∃ x, l (k * 5 + 3) = x := ⟨_, rfl⟩
    rw [N3] at x3
    obtain ⟨n4, N4⟩ : ∃ x, l (k * 5 + 4) = x := ⟨_, rfl⟩
    rw [N4] at x4
    have hP2 : Hid (Plc w (.slice ao (selP l 5 2 1 k).length cp) (selP l 5 2 1 k) (wr.alloc (.cells #[.int .i64 n0, .int .i64 n1, .int .i64 n2, .int .i64 n3, .int .i64 n4] 62))) := HS.out.later (below_alloc _ _)
    by_cases hp : n2 = 1
    case neg =>
      have hd : (n2 == 1) = false := beq_eq_false_iff_ne.2 hp
      have E : Hid (Plc w (.slice ao (selP l 5 2 1 k).length cp) (selP l 5 2 1 (k + 1)) (wr.alloc (.cells #[.int .i64 n0, .int .i64 n1, .int .i64 n2, .int .i64 n3, .int .i64 n4] 62))) := by
        unfold Hid
        rw [selP_no (by rw [N2]; exact hp)]
        exact hP2.out
      clear N0 N1 N2 N3 N4 hp HS hP2
      go_wp2
      go_roundw
      case rel => exact ⟨k + 1, by omega, by go_num, E⟩
      case measure => simp [intOf]; omega
    subst hp
    have HL : Hid ((selP l 5 2 1 (k + 1)) = (selP l 5 2 1 k) ++ [(n0, n1)]) := by
      unfold Hid
      rw [selP_yes (by rw [N2])]
      rw [N0, N1]
    have hnle : (selP l 5 2 1 k).length ≤ 400 := by
      have q1 := selP_le l 5 2 1 k
      omega
    obtain ⟨PP, hPP⟩ : ∃ PP, (selP l 5 2 1 k) = PP := ⟨_, rfl⟩
    rw [hPP] at HL hP2 hnle HS
    rw [hPP]
    have hP3 : Hid (Plc w (.slice ao PP.length cp) PP ((wr.alloc (.cells #[.int .i64 n0, .int .i64 n1, .int .i64 1, .int .i64 n3, .int .i64 n4] 62)).alloc (.cells #[.int .i64 n0, .int .i64 n1] 76))) := hP2.out.later (below_alloc _ _)
    have hown := hP3.out.1
    have hsz : w.heap.size ≤ wr.heap.size := HS.out.2.size
    clear N0 N1 N2 N3 N4 HS hP2 hPP
    go_wp2_with (at_builtin; refine wpList_append_own _ rfl _ _ 92 rfl w.heap.size 76 i0 (.agg #[.int .i64 0, .int .i64 0]) 2 16 Tryz.underlying92 hi hz0 hz1 hz2 rfl (by decide) _ _ _ rfl hown ⟨_, 0, none⟩ 1 1 [.int .i64 n0, .int .i64 n1] rfl rfl ?c1 ?c2 ?c3 ?c4 ?c5 ?_)
    case c1 =>
      intro q u hq
      match q, hq with
      | 0, hq => simp at hq; subst hq; simp [Addr.add]
      | 1, hq => simp at hq; subst hq; simp [Addr.add]
    case c2 =>
      intro u hu
      simp at hu
      rcases hu with rfl | rfl <;> rfl
    case c3 => unfold maxLen; omega
    case c4 => omega
    case c5 => simp; omega
    intro v' w2 ho hg2 _
    have E2 : Hid (Plc w v' (selP l 5 2 1 (k + 1)) w2) := by
      unfold Hid
      rw [HL.out]
      exact hP3.out.step ho hg2
    clear ho hg2 hown hP3 HL
    go_wp2
    go_roundw
    case rel => exact ⟨k + 1, by omega, by go_num, E2⟩
    case measure => simp [intOf]; omega
theorem putP_needs {S : Sto} : (∀ x y, (x, y) ∈ putP S.nl S.l S.nw S.k → hasCell S S.nc x y) ↔ needs S := by
  unfold putP needs
  constructor
  · intro h
    exact ⟨fun i hi q => h _ _ (List.mem_append.2 (Or.inr ((selP_mem _ _ _).2 ⟨i, hi, q, rfl, rfl⟩))), fun i hi q => h _ _ (List.mem_append.2 (Or.inl ((selP_mem _ _ _).2 ⟨i, hi, q, rfl, rfl⟩)))⟩
  · intro h x y hm
    rcases List.mem_append.1 hm with q | q
    · obtain ⟨i, hi, q1, rfl, rfl⟩ := (selP_mem _ _ _).1 q
      exact h.2 i hi q1
    · obtain ⟨i, hi, q1, rfl, rfl⟩ := (selP_mem _ _ _).1 q
      exact h.1 i hi q1
theorem putP_wf {nl : Nat} {l : Nat → Int} {nw : Nat} {k : Nat → Int} (z1 : ∀ i, i < nl → lockF l i = 0) (z2 : ∀ i, i < nw → writeF k i = 0) {x y : Int} (h : (x, y) ∈ putP nl l nw k) : Wf x ∧ Wf y := by
  rcases List.mem_append.1 h with q | q
  · obtain ⟨i, hi, q1, rfl, rfl⟩ := (selP_mem _ _ _).1 q
    have e := lockF_zero (z1 i hi)
    have f := faultOf_zero e.1
    exact ⟨wf_small f.1 (by omega), wf_small (by omega) e.2.2⟩
  · obtain ⟨i, hi, q1, rfl, rfl⟩ := (selP_mem _ _ _).1 q
    have e := writeF_zero (z2 i hi)
    have f := faultOf_zero e.1
    exact ⟨wf_small f.1 (by omega), wf_small (by omega) e.2.2.2.2.1⟩
set_option maxRecDepth 100000 in
set_option maxHeartbeats 4000000 in
theorem putsHaveCells_any (S : Sto) (B : Nat) (v0 v1 v2 : Value) (r : Bool) (w : World) (h : St w B S v0 v1 v2) (hc : S.nc ≤ 200) (hl : S.nl ≤ 200) (hk : S.nw ≤ 200) (z0 : scan (cellF S.c) S.nc = 0) (z1 : scan (lockF S.l) S.nl = 0) (z2 : scan (writeF S.k) S.nw = 0) (hr : r = true ↔ needs S) :
    Calls Tryz.prog 25 #[.agg #[v0, v1, v2]] w fun e w' => e = .returned (.bool r) ∧ Below w.heap.size w w' := by
  obtain ⟨a0, c0, a1, c1, a2, c2, rfl, rfl, rfl⟩ := h.form
  have H : Hid (St w B S (.slice a0 S.nc c0) (.slice a1 S.nl c1) (.slice a2 S.nw c2)) := h
  have HR : Hid (r = true ↔ (∀ x y, (x, y) ∈ putP S.nl S.l S.nw S.k → hasCell S S.nc x y)) := hr.trans putP_needs.symm
  have HW : Hid (∀ x y, (x, y) ∈ putP S.nl S.l S.nw S.k → Wf x ∧ Wf y) := fun x y => putP_wf (scan_zero z1) (scan_zero z2)
  have Z0 : Hid (scan (cellF S.c) S.nc = 0) := z0
  clear h hr z0 z1 z2
  go_enter Tryz.func25, Tryz.ntmps25
  go_wp2_with fail
  refine (cellsByPlace_any S _ B _ ((H.out.alloc _).1) hc Z0.out).mono ?_
  rintro e w1 ⟨rfl, HP, hb1⟩
  have hB : Below w.heap.size w w1 := (below_alloc _ _).trans (hb1.mono (by simp))
  have hB3 := (Blk3.new w (.slice a0 S.nc c0) (.slice a1 S.nl c1) (.slice a2 S.nw c2) 28).later hb1
  have y1 := hB3.1.2.1
  have y2 := hB3.1.2.2
  have hsz : (w.alloc (.cells #[.slice a0 S.nc c0, .slice a1 S.nl c1, .slice a2 S.nw c2] 28)).heap.size = w.heap.size + 1 := by simp
  rw [hsz] at HP hb1
  rw [hsz]
  have HP1 : Hid (PM w1 (w.heap.size + 1) S.nc (cellM S S.nc)) := HP
  clear HP hb1 hB3 hsz
  go_wp2_with fail
  refine (putPlaces_any S.nl S.l S.nw S.k B _ _ w1 (H.out.later hB).2.1 (H.out.later hB).2.2 hl hk).mono ?_
  rintro e w2 ⟨v, rfl, HQ⟩
  obtain ⟨ao, cp, rfl⟩ := HQ.form
  obtain ⟨P, hP⟩ : ∃ P, putP S.nl S.l S.nw S.k = P := ⟨_, rfl⟩
  have hPl : P.length ≤ 400 := by
    rw [← hP, putP, List.length_append]
    have q0 := selP_le S.l 5 2 1 S.nl
    have q1 := selP_le S.k 4 3 2 S.nw
    omega
  rw [hP] at HR HW HQ
  rw [hP]
  clear hP y1 y2
  have HB2 : Hid (Below w.heap.size w w2) := hB.trans (HQ.2.mono hB.size)
  have HM : Hid (PM w2 (w.heap.size + 1) S.nc (cellM S S.nc)) := HP1.out.later HQ.2
  have HO : Hid (Row w2 w1.heap.size 2 P.length (fun p => (flat P).getD p 0) (.slice ao P.length cp)) := HQ.row
  clear HQ hB HP1 H
  go_wp2
  go_loopw [17] (fun i wr => ∃ (k : Nat), k ≤ P.length ∧ i = .int .i64 k ∧ Hid (∀ j, (hj : j < k) → (hj2 : j < P.length) → hasCell S S.nc (P[j]'hj2).1 (P[j]'hj2).2) ∧ Hid (Below w2.heap.size w2 wr)) (fun i _ => P.length - (intOf i).toNat)
  case atStart => exact ⟨0, Nat.zero_le _, rfl, fun j hj => absurd hj (Nat.not_lt_zero j), Below.refl _ _⟩
  case round =>
    obtain ⟨k, hk', rfl, HS, HE⟩ := hrel
    have HB3 : Hid (Below w.heap.size w wr) := HB2.out.trans (HE.out.mono HB2.out.size)
    by_cases hlt : k < P.length
    case neg =>
      have E : Hid (r = true) := HR.out.2 (fun x y hm => by
        obtain ⟨j, hj, e⟩ := List.mem_iff_getElem.1 hm
        have := HS.out j (by omega) hj
        rw [e] at this
        exact this)
      clear HS
      go_wp2
      go_ret
      exact ⟨by rw [E.out]; rfl, HB3.out⟩
    obtain ⟨g, o, ha, _, hg, hx⟩ := (HO.out.later HE.out).at hlt
    subst ha
    have x0 := hx 0 (by omega)
    have x1 := hx 1 (by omega)
    have hfa := flat_at P k hlt
    obtain ⟨n0, N0⟩ : ∃ x, (P[k]'hlt).1 = x := ⟨_, rfl⟩
    obtain ⟨n1, N1⟩ : ∃ x, (P[k]'hlt).2 = x := ⟨_, rfl⟩
    simp only [Nat.add_zero] at x0
    rw [hfa.1, N0] at x0
    rw [hfa.2, N1] at x1
    have hmem : (n0, n1) ∈ P := by rw [← N0, ← N1]; exact List.getElem_mem hlt
    have hwf := HW.out n0 n1 hmem
    have hM2 := (HM.out.later HE.out).alloc (.cells #[.int .i64 n0, .int .i64 n1] 76)
    have hlk := hM2.look hwf.1 hwf.2
    have HB4 : Hid (Below w2.heap.size w2 (wr.alloc (.cells #[.int .i64 n0, .int .i64 n1] 76))) := HE.out.alloc HE.out.size _
    have HB5 : Hid (Below w.heap.size w (wr.alloc (.cells #[.int .i64 n0, .int .i64 n1] 76))) := HB3.out.alloc HB3.out.size _
    obtain ⟨u, hu⟩ : ∃ u, (cellM S S.nc n0 n1).getD 0 = u := ⟨_, rfl⟩
    rw [hu] at hlk
    have hch := cellM_has S S.nc n0 n1
    cases hs : (cellM S S.nc n0 n1).isSome with
    | true =>
      rw [hs] at hlk hch
      have E : Hid (∀ j, (hj : j < k + 1) → (hj2 : j < P.length) → hasCell S S.nc (P[j]'hj2).1 (P[j]'hj2).2) := fun j hj hj2 => by
        by_cases e : j = k
        · subst e; rw [N0, N1]; exact hch.1 rfl
        · exact HS.out j (by omega) hj2
      clear hs hch hu hM2 hwf hmem hfa N0 N1 hx HS HE HB3
      go_wp2
      go_roundw
      case rel => exact ⟨k + 1, by omega, by go_num, E, HB4⟩
      case measure => simp [intOf]; omega
    | false =>
      rw [hs] at hlk hch
      have E : Hid (r = false) := by
        cases r with
        | false => rfl
        | true => exact absurd (hch.2 (HR.out.1 rfl n0 n1 hmem)) Bool.false_ne_true
      clear hs hch hu hM2 hwf hmem hfa N0 N1 hx HS HE HB3
      go_wp2
      go_ret
      exact ⟨by rw [E.out]; rfl, HB5.out⟩
end

section
open Go.RowKit Go.Maps
/-- What the loops of startsDiffer stand on. -/
def StartEnv (w : World) (S : Sto) (v0 v1 v2 : Value) (k : Nat) (x : World) : Prop := Blk3 x w.heap.size v0 v1 v2 ∧ PM x (w.heap.size + 1) k (writeM S k) ∧ Below w.heap.size w x
theorem StartEnv.later {w x x' : World} {S : Sto} {v0 v1 v2 : Value} {k : Nat} (h : StartEnv w S v0 v1 v2 k x) (hb : Below x.heap.size x x') : StartEnv w S v0 v1 v2 k x' :=
  ⟨h.1.later hb, h.2.1.later hb, h.2.2.trans (hb.mono h.2.2.size)⟩
set_option maxRecDepth 100000 in
set_option maxHeartbeats 4000000 in
theorem startsDiffer_any (S : Sto) (B : Nat) (v0 v1 v2 : Value) (r : Bool) (w : World) (h : St w B S v0 v1 v2) (hl : S.nl ≤ 200) (hk : S.nw ≤ 200) (z1 : scan (lockF S.l) S.nl = 0) (z2 : scan (writeF S.k) S.nw = 0) (hr : r = true ↔ once S) :
    Calls Tryz.prog 26 #[.agg #[v0, v1, v2]] w fun e w' => e = .returned (.bool r) ∧ Below w.heap.size w w' := by
  obtain ⟨a0, c0, a1, c1, a2, c2, rfl, rfl, rfl⟩ := h.form
  have H : Hid (St w B S (.slice a0 S.nc c0) (.slice a1 S.nl c1) (.slice a2 S.nw c2)) := h
  have HR : Hid (r = true ↔ once S) := hr
  have Z1 : Hid (∀ i, i < S.nl → lockF S.l i = 0) := scan_zero z1
  have Z2 : Hid (∀ i, i < S.nw → writeF S.k i = 0) := scan_zero z2
  clear h hr z1 z2
  have hmm := run_makeMap_i64
  have HE : Hid (StartEnv w S (.slice a0 S.nc c0) (.slice a1 S.nl c1) (.slice a2 S.nw c2) 0 ((w.alloc (.cells #[.slice a0 S.nc c0, .slice a1 S.nl c1, .slice a2 S.nw c2] 28)).alloc (.map #[] 0))) := by
    have hP := PM.made (w.alloc (.cells #[.slice a0 S.nc c0, .slice a1 S.nl c1, .slice a2 S.nw c2] 28))
    rw [show (w.alloc (.cells #[.slice a0 S.nc c0, .slice a1 S.nl c1, .slice a2 S.nw c2] 28)).heap.size = w.heap.size + 1 from by simp] at hP
    exact ⟨(Blk3.new w _ _ _ _).alloc _, hP, (below_alloc _ _).alloc (by simp) _⟩
  go_enter Tryz.func26, Tryz.ntmps26
  go_wp2
  go_loopw [20] (fun i wr => ∃ k : Nat, k ≤ S.nw ∧ i = .int .i64 k ∧ Hid (∀ j, j < k → onceW S j) ∧ Hid (StartEnv w S (.slice a0 S.nc c0) (.slice a1 S.nl c1) (.slice a2 S.nw c2) k wr)) (fun i _ => S.nw - (intOf i).toNat)
  case atStart => exact ⟨0, Nat.zero_le _, rfl, fun j hj => absurd hj (Nat.not_lt_zero j), HE⟩
  case round =>
    clear HE
    obtain ⟨k, hk', rfl, HS, HE⟩ := hrel
    by_cases hlt : k < S.nw
    case neg =>
      obtain rfl : k = S.nw := by omega
      have HW : Hid (∀ i, i < S.nw → onceW S i) := HS
      have y1 := HE.out.1.1.2.1
      clear HS
      go_wp2
      clear y1 hk' hlt
      go_loopw [44] (fun i wr => ∃ k : Nat, k ≤ S.nl ∧ i = .int .i64 k ∧ Hid (∀ j, j < k → onceL S j) ∧ Hid (StartEnv w S (.slice a0 S.nc c0) (.slice a1 S.nl c1) (.slice a2 S.nw c2) S.nw wr)) (fun i _ => S.nl - (intOf i).toNat)
      case atStart => exact ⟨0, Nat.zero_le _, rfl, fun j hj => absurd hj (Nat.not_lt_zero j), HE⟩
      case round =>
        clear HE
        obtain ⟨k, hk', rfl, HS, HE⟩ := hrel
        by_cases hlt : k < S.nl
        case neg =>
          have E : Hid (r = true) := HR.out.2 ⟨HW.out, fun i hi => HS.out i (by omega)⟩
          clear HS
          go_wp2
          go_ret
          exact ⟨by rw [E.out]; rfl, HE.out.2.2⟩
        obtain ⟨g, o, rfl, _, hg, x0, x1, x2, x3, x4⟩ := (H.out.2.1.later HE.out.2.2).at5 hlt
        obtain ⟨n0, N0⟩ : ∃ x, S.l (k * 5) = x := ⟨_, rfl⟩
        rw [N0] at x0
        obtain ⟨n1, N1⟩ : ∃ x, S.l (k * 5 + 1) = x := ⟨_, rfl⟩
        rw [N1] at x1
        obtain ⟨n2, N2⟩ : ∃ x, S.l (k * 5 + 2) = x := ⟨_, rfl⟩
        rw [N2] at x2
        obtain ⟨n3, N3⟩ : ∃ x, S.l (k * 5 + 3) = x := ⟨_, rfl⟩
        rw [N3] at x3
        obtain ⟨n4, N4⟩ : ∃ x, S.l (k * 5 + 4) = x := ⟨_, rfl⟩
        rw [N4] at x4
        have ZZ := lockF_zero (Z1.out k hlt)
        rw [N0, N1] at ZZ
        have hk2 := faultOf_zero ZZ.1
        have hw0 : Wf n0 := wf_small hk2.1 (by omega)
        have hw1 : Wf n1 := wf_small (by omega) (by omega)
        have hE2 : StartEnv w S (.slice a0 S.nc c0) (.slice (some ⟨g, o, none⟩) S.nl c1) (.slice a2 S.nw c2) S.nw (wr.alloc (.cells #[.int .i64 n0, .int .i64 n1, .int .i64 n2, .int .i64 n3, .int .i64 n4] 62)) := HE.out.later (below_alloc wr _)
        have PU : Hid (onceL S k ↔ ¬ hasWrite S S.nw n0 n1) := by
          unfold Hid onceL
          rw [N0, N1]
        clear N0 N1 N2 N3 N4 ZZ hk2
        have hlk := hE2.2.1.look hw0 hw1
        obtain ⟨u, hu⟩ : ∃ u, (writeM S S.nw n0 n1).getD 0 = u := ⟨_, rfl⟩
        rw [hu] at hlk
        clear hu
        by_cases hp : onceL S k
        · have hs : (writeM S S.nw n0 n1).isSome = false := by
            cases hq : (writeM S S.nw n0 n1).isSome with
            | false => rfl
            | true => exact absurd ((writeM_has S _ _ _).1 hq) (PU.out.1 hp)
          rw [hs] at hlk
          clear hs
          have E : Hid (∀ j, j < k + 1 → onceL S j) := all_next HS.out hp
          have HE2 : Hid (StartEnv w S (.slice a0 S.nc c0) (.slice (some ⟨g, o, none⟩) S.nl c1) (.slice a2 S.nw c2) S.nw (wr.alloc (.cells #[.int .i64 n0, .int .i64 n1, .int .i64 n2, .int .i64 n3, .int .i64 n4] 62))) := hE2
          clear hE2 HS PU hp hw0 hw1
          go_wp2
          go_roundw
          case rel => exact ⟨k + 1, by omega, by go_num, E, HE2⟩
          case measure => simp [intOf]; omega
        · have hs : (writeM S S.nw n0 n1).isSome = true := by
            refine (writeM_has S _ _ _).2 (Classical.byContradiction fun q => hp (PU.out.2 q))
          rw [hs] at hlk
          clear hs
          have E : Hid (r = false) := by
            cases r with
            | false => rfl
            | true => exact absurd ((HR.out.1 rfl).2 k hlt) hp
          have HE2 : Hid (StartEnv w S (.slice a0 S.nc c0) (.slice (some ⟨g, o, none⟩) S.nl c1) (.slice a2 S.nw c2) S.nw (wr.alloc (.cells #[.int .i64 n0, .int .i64 n1, .int .i64 n2, .int .i64 n3, .int .i64 n4] 62))) := hE2
          clear hE2 HS PU hp hw0 hw1
          go_wp2
          go_ret
          exact ⟨by rw [E.out]; rfl, HE2.out.2.2⟩
    obtain ⟨g, o, rfl, _, hg, x0, x1, x2, x3⟩ := (H.out.2.2.later HE.out.2.2).at4 hlt
    obtain ⟨n0, N0⟩ : ∃ x, S.k (k * 4) = x := ⟨_, rfl⟩
    rw [N0] at x0
    obtain ⟨n1, N1⟩ : ∃ x, S.k (k * 4 + 1) = x := ⟨_, rfl⟩
    rw [N1] at x1
    obtain ⟨n2, N2⟩ : ∃ x, S.k (k * 4 + 2) = x := ⟨_, rfl⟩
    rw [N2] at x2
    obtain ⟨n3, N3⟩ : ∃ x, S.k (k * 4 + 3) = x := ⟨_, rfl⟩
    rw [N3] at x3
    have ZZ := writeF_zero (Z2.out k hlt)
    rw [N0, N2, N3] at ZZ
    have hk2 := faultOf_zero ZZ.1
    have hw0 : Wf n0 := wf_small hk2.1 (by omega)
    have hw1 : Wf n2 := wf_small (by omega) (by omega)
    have hw2 : Wf n3 := wf_small (by omega) (by omega)
    have hE2 : StartEnv w S (.slice a0 S.nc c0) (.slice a1 S.nl c1) (.slice (some ⟨g, o, none⟩) S.nw c2) k ((wr.alloc (.cells #[.int .i64 n0, .int .i64 n1, .int .i64 n2, .int .i64 n3] 36)).alloc (.cells #[.int .i64 n0, .int .i64 n2] 76)) := (HE.out.later (below_alloc wr _)).later (below_alloc _ _)
    have PU : Hid (onceW S k ↔ ¬ hasWrite S k n0 n2) := by
      unfold Hid onceW
      rw [N0, N2]
    have NN : Hid (S.k (k * 4) = n0 ∧ S.k (k * 4 + 2) = n2 ∧ S.k (k * 4 + 3) = n3) := ⟨N0, N2, N3⟩
    clear N0 N1 N2 N3 ZZ hk2
    have hlk := hE2.2.1.look hw0 hw1
    obtain ⟨u, hu⟩ : ∃ u, (writeM S k n0 n2).getD 0 = u := ⟨_, rfl⟩
    rw [hu] at hlk
    clear hu
    by_cases hp : onceW S k
    · have hs : (writeM S k n0 n2).isSome = false := by
        cases hq : (writeM S k n0 n2).isSome with
        | false => rfl
        | true => exact absurd ((writeM_has S _ _ _).1 hq) (PU.out.1 hp)
      rw [hs] at hlk
      clear hs
      have E : Hid (∀ j, j < k + 1 → onceW S j) := all_next HS.out hp
      have hP := hE2.2.1
      have hB2 := hE2.2.2
      have HB3 : Hid (Blk3 ((wr.alloc (.cells #[.int .i64 n0, .int .i64 n1, .int .i64 n2, .int .i64 n3] 36)).alloc (.cells #[.int .i64 n0, .int .i64 n2] 76)) w.heap.size (.slice a0 S.nc c0) (.slice a1 S.nl c1) (.slice (some ⟨g, o, none⟩) S.nw c2)) := hE2.1
      have hsz : w.heap.size < ((wr.alloc (.cells #[.int .i64 n0, .int .i64 n1, .int .i64 n2, .int .i64 n3] 36)).alloc (.cells #[.int .i64 n0, .int .i64 n2] 76)).heap.size := hE2.1.lt
      clear hE2 HS PU hp
      go_wp2_with (first | (at_mapUpdate; refine wpList_put _ rfl _ _ _ rfl (w.heap.size + 1) k _ rfl hP (small_maxLen (Nat.le_trans hk' hk)) n0 n2 n3 rfl rfl hw0 hw1 hw2 ?_; intro w4 hP4 hg4) | go_in)
      go_roundw
      case rel => exact ⟨k + 1, by omega, by go_num, E, ⟨HB3.out.kept (hg4.block _ hsz (by simp)), by rw [← NN.out.1, ← NN.out.2.1, ← NN.out.2.2] at hP4; exact hP4, below_grown hB2 (Nat.le_of_lt hsz) (Nat.le_succ _) hg4⟩⟩
      case measure => simp [intOf]; omega
    · have hs : (writeM S k n0 n2).isSome = true := by
        refine (writeM_has S _ _ _).2 (Classical.byContradiction fun q => hp (PU.out.2 q))
      rw [hs] at hlk
      clear hs
      have E : Hid (r = false) := by
        cases r with
        | false => rfl
        | true => exact absurd ((HR.out.1 rfl).1 k hlt) hp
      have HE2 : Hid (StartEnv w S (.slice a0 S.nc c0) (.slice a1 S.nl c1) (.slice (some ⟨g, o, none⟩) S.nw c2) k ((wr.alloc (.cells #[.int .i64 n0, .int .i64 n1, .int .i64 n2, .int .i64 n3] 36)).alloc (.cells #[.int .i64 n0, .int .i64 n2] 76))) := hE2
      clear hE2 HS PU hp hw0 hw1 hw2
      go_wp2
      go_ret
      exact ⟨by rw [E.out]; rfl, HE2.out.2.2⟩
end
end Go.Proofs.YtgedodcojalidaaGreat

namespace Go.Proofs.YtgedodcojalidaaGreat
open Go.RowKit

theorem cellsFault_is (S : Sto) (v : Value) (B : Nat) (r : Int) (hr : scan (cellF S.c) S.nc = r) (w : World) (h : Row w B 3 S.nc S.c v) (hn : S.nc ≤ 200) :
    Calls Tryz.prog 22 #[v] w fun e w' => e = .returned (.int .i64 r) ∧ Below w.heap.size w w' :=
  (cellsFault_any S v B w h hn).mono fun e w' ⟨he, hw⟩ => ⟨by rw [he, hr], hw⟩
theorem locksFault_is (S : Sto) (v : Value) (B : Nat) (r : Int) (hr : scan (lockF S.l) S.nl = r) (w : World) (h : Row w B 5 S.nl S.l v) (hn : S.nl ≤ 200) :
    Calls Tryz.prog 23 #[v] w fun e w' => e = .returned (.int .i64 r) ∧ Below w.heap.size w w' :=
  (locksFault_any S v B w h hn).mono fun e w' ⟨he, hw⟩ => ⟨by rw [he, hr], hw⟩
theorem writesFault_is (S : Sto) (v : Value) (B : Nat) (r : Int) (hr : scan (writeF S.k) S.nw = r) (w : World) (h : Row w B 4 S.nw S.k v) (hn : S.nw ≤ 200) :
    Calls Tryz.prog 24 #[v] w fun e w' => e = .returned (.int .i64 r) ∧ Below w.heap.size w w' :=
  (writesFault_any S v B w h hn).mono fun e w' ⟨he, hw⟩ => ⟨by rw [he, hr], hw⟩
/-- What StoreFault stands on: its own copy of the store. -/
def BoxEnv (w : World) (B : Nat) (S : Sto) (v0 v1 v2 : Value) (x : World) : Prop := Blk3 x w.heap.size v0 v1 v2 ∧ St x B S v0 v1 v2 ∧ Below w.heap.size w x
theorem BoxEnv.later {w x x' : World} {B : Nat} {S : Sto} {v0 v1 v2 : Value} (h : BoxEnv w B S v0 v1 v2 x) (hb : Below x.heap.size x x') : BoxEnv w B S v0 v1 v2 x' :=
  ⟨h.1.later hb, h.2.1.later hb, h.2.2.trans (hb.mono h.2.2.size)⟩
set_option maxRecDepth 10000 in
set_option maxHeartbeats 4000000 in
theorem implFault_any (S : Sto) (v0 v1 v2 : Value) (B : Nat) (w : World) (h : St w B S v0 v1 v2) :
    Calls Tryz.prog 9 #[.agg #[v0, v1, v2]] w fun e w' => e = .returned (.int .i64 (storeF S)) ∧ Below w.heap.size w w' := by
  obtain ⟨a0, c0, a1, c1, a2, c2, rfl, rfl, rfl⟩ := h.form
  have HE : Hid (BoxEnv w B S (.slice a0 S.nc c0) (.slice a1 S.nl c1) (.slice a2 S.nw c2) (w.alloc (.cells #[.slice a0 S.nc c0, .slice a1 S.nl c1, .slice a2 S.nw c2] 28))) := ⟨Blk3.new w _ _ _ _, h.alloc _, below_alloc _ _⟩
  clear h
  by_cases m0 : 200 < S.nc
  · have E : Hid (storeF S = 2) := by unfold Hid storeF; rw [if_pos (Or.inl m0)]
    go_enter Tryz.func9, Tryz.ntmps9
    go_wp2_with fail
    go_wp2
    go_ret
    exact ⟨by rw [E.out]; rfl, HE.out.2.2⟩
  have m0' : decide ((200 : Int) < (S.nc : Int)) = false := decide_eq_false (by omega)
  by_cases m1 : 200 < S.nl
  · have E : Hid (storeF S = 2) := by unfold Hid storeF; rw [if_pos (Or.inr (Or.inl m1))]
    clear m0
    go_enter Tryz.func9, Tryz.ntmps9
    go_wp2_with fail
    go_wp2
    go_ret
    exact ⟨by rw [E.out]; rfl, HE.out.2.2⟩
  have m1' : decide ((200 : Int) < (S.nl : Int)) = false := decide_eq_false (by omega)
  by_cases m2 : 200 < S.nw
  · have E : Hid (storeF S = 2) := by unfold Hid storeF; rw [if_pos (Or.inr (Or.inr m2))]
    clear m0 m1
    go_enter Tryz.func9, Tryz.ntmps9
    go_wp2_with fail
    go_wp2
    go_ret
    exact ⟨by rw [E.out]; rfl, HE.out.2.2⟩
  have m2' : decide ((200 : Int) < (S.nw : Int)) = false := decide_eq_false (by omega)
  have HM : Hid (¬ (200 < S.nc ∨ 200 < S.nl ∨ 200 < S.nw)) := by unfold Hid; omega
  have hc : Hid (S.nc ≤ 200 ∧ S.nl ≤ 200 ∧ S.nw ≤ 200) := ⟨by omega, by omega, by omega⟩
  clear m0 m1 m2
  by_cases z0 : scan (cellF S.c) S.nc = 0
  case neg =>
    obtain ⟨f, hf⟩ : ∃ f, scan (cellF S.c) S.nc = f := ⟨_, rfl⟩
    have E : Hid (storeF S = f) := by unfold Hid storeF; rw [if_neg HM.out, if_pos z0]; exact hf
    have hfn : (f == 0) = false := beq_eq_false_iff_ne.2 (by rw [← hf]; exact z0)
    have F0 : Hid (scan (cellF S.c) S.nc = f) := hf
    clear hf z0
    go_enter Tryz.func9, Tryz.ntmps9
    go_wp2_with fail
    refine (cellsFault_is S _ B f F0.out _ HE.out.2.1.1 hc.out.1).mono ?_
    rintro e w1 ⟨rfl, q1⟩
    have HE : Hid (BoxEnv w B S (.slice a0 S.nc c0) (.slice a1 S.nl c1) (.slice a2 S.nw c2) w1) := HE.out.later q1
    have p0 := HE.out.1.1.1
    have p1 := HE.out.1.1.2.1
    have p2 := HE.out.1.1.2.2
    clear q1
    go_wp2_with fail
    go_wp2
    go_ret
    exact ⟨by rw [E.out]; rfl, HE.out.2.2⟩
  have F0 : Hid (scan (cellF S.c) S.nc = 0) := z0
  have G0 : Hid (¬ scan (cellF S.c) S.nc ≠ 0) := fun h => h z0
  clear z0
  by_cases z0 : scan (lockF S.l) S.nl = 0
  case neg =>
    obtain ⟨f, hf⟩ : ∃ f, scan (lockF S.l) S.nl = f := ⟨_, rfl⟩
    have E : Hid (storeF S = f) := by unfold Hid storeF; rw [if_neg HM.out, if_neg G0.out, if_pos z0]; exact hf
    have hfn : (f == 0) = false := beq_eq_false_iff_ne.2 (by rw [← hf]; exact z0)
    have F1 : Hid (scan (lockF S.l) S.nl = f) := hf
    clear hf z0
    go_enter Tryz.func9, Tryz.ntmps9
    go_wp2_with fail
    refine (cellsFault_is S _ B 0 F0.out _ HE.out.2.1.1 hc.out.1).mono ?_
    rintro e w1 ⟨rfl, q1⟩
    have HE : Hid (BoxEnv w B S (.slice a0 S.nc c0) (.slice a1 S.nl c1) (.slice a2 S.nw c2) w1) := HE.out.later q1
    have p0 := HE.out.1.1.1
    have p1 := HE.out.1.1.2.1
    have p2 := HE.out.1.1.2.2
    clear q1
    go_wp2_with fail
    refine (locksFault_is S _ B f F1.out _ HE.out.2.1.2.1 hc.out.2.1).mono ?_
    rintro e w1 ⟨rfl, q1⟩
    have HE : Hid (BoxEnv w B S (.slice a0 S.nc c0) (.slice a1 S.nl c1) (.slice a2 S.nw c2) w1) := HE.out.later q1
    have p0 := HE.out.1.1.1
    have p1 := HE.out.1.1.2.1
    have p2 := HE.out.1.1.2.2
    clear q1
    go_wp2_with fail
    go_wp2
    go_ret
    exact ⟨by rw [E.out]; rfl, HE.out.2.2⟩
  have F1 : Hid (scan (lockF S.l) S.nl = 0) := z0
  have G1 : Hid (¬ scan (lockF S.l) S.nl ≠ 0) := fun h => h z0
  clear z0
  by_cases z0 : scan (writeF S.k) S.nw = 0
  case neg =>
    obtain ⟨f, hf⟩ : ∃ f, scan (writeF S.k) S.nw = f := ⟨_, rfl⟩
    have E : Hid (storeF S = f) := by unfold Hid storeF; rw [if_neg HM.out, if_neg G0.out, if_neg G1.out, if_pos z0]; exact hf
    have hfn : (f == 0) = false := beq_eq_false_iff_ne.2 (by rw [← hf]; exact z0)
    have F2 : Hid (scan (writeF S.k) S.nw = f) := hf
    clear hf z0
    go_enter Tryz.func9, Tryz.ntmps9
    go_wp2_with fail
    refine (cellsFault_is S _ B 0 F0.out _ HE.out.2.1.1 hc.out.1).mono ?_
    rintro e w1 ⟨rfl, q1⟩
    have HE : Hid (BoxEnv w B S (.slice a0 S.nc c0) (.slice a1 S.nl c1) (.slice a2 S.nw c2) w1) := HE.out.later q1
    have p0 := HE.out.1.1.1
    have p1 := HE.out.1.1.2.1
    have p2 := HE.out.1.1.2.2
    clear q1
    go_wp2_with fail
    refine (locksFault_is S _ B 0 F1.out _ HE.out.2.1.2.1 hc.out.2.1).mono ?_
    rintro e w1 ⟨rfl, q1⟩
    have HE : Hid (BoxEnv w B S (.slice a0 S.nc c0) (.slice a1 S.nl c1) (.slice a2 S.nw c2) w1) := HE.out.later q1
    have p0 := HE.out.1.1.1
    have p1 := HE.out.1.1.2.1
    have p2 := HE.out.1.1.2.2
    clear q1
    go_wp2_with fail
    refine (writesFault_is S _ B f F2.out _ HE.out.2.1.2.2 hc.out.2.2).mono ?_
    rintro e w1 ⟨rfl, q1⟩
    have HE : Hid (BoxEnv w B S (.slice a0 S.nc c0) (.slice a1 S.nl c1) (.slice a2 S.nw c2) w1) := HE.out.later q1
    have p0 := HE.out.1.1.1
    have p1 := HE.out.1.1.2.1
    have p2 := HE.out.1.1.2.2
    clear q1
    go_wp2_with fail
    go_wp2
    go_ret
    exact ⟨by rw [E.out]; rfl, HE.out.2.2⟩
  have F2 : Hid (scan (writeF S.k) S.nw = 0) := z0
  have G2 : Hid (¬ scan (writeF S.k) S.nw ≠ 0) := fun h => h z0
  clear z0
  by_cases y0 : needs S
  case neg =>
    have E : Hid (storeF S = 4) := by unfold Hid storeF; rw [if_neg HM.out, if_neg G0.out, if_neg G1.out, if_neg G2.out, if_pos y0]
    have Y : Hid (false = true ↔ needs S) := ⟨fun h => absurd h (by decide), fun h => absurd h y0⟩
    clear y0
    go_enter Tryz.func9, Tryz.ntmps9
    go_wp2_with fail
    refine (cellsFault_is S _ B 0 F0.out _ HE.out.2.1.1 hc.out.1).mono ?_
    rintro e w1 ⟨rfl, q1⟩
    have HE : Hid (BoxEnv w B S (.slice a0 S.nc c0) (.slice a1 S.nl c1) (.slice a2 S.nw c2) w1) := HE.out.later q1
    have p0 := HE.out.1.1.1
    have p1 := HE.out.1.1.2.1
    have p2 := HE.out.1.1.2.2
    clear q1
    go_wp2_with fail
    refine (locksFault_is S _ B 0 F1.out _ HE.out.2.1.2.1 hc.out.2.1).mono ?_
    rintro e w1 ⟨rfl, q1⟩
    have HE : Hid (BoxEnv w B S (.slice a0 S.nc c0) (.slice a1 S.nl c1) (.slice a2 S.nw c2) w1) := HE.out.later q1
    have p0 := HE.out.1.1.1
    have p1 := HE.out.1.1.2.1
    have p2 := HE.out.1.1.2.2
    clear q1
    go_wp2_with fail
    refine (writesFault_is S _ B 0 F2.out _ HE.out.2.1.2.2 hc.out.2.2).mono ?_
    rintro e w1 ⟨rfl, q1⟩
    have HE : Hid (BoxEnv w B S (.slice a0 S.nc c0) (.slice a1 S.nl c1) (.slice a2 S.nw c2) w1) := HE.out.later q1
    have p0 := HE.out.1.1.1
    have p1 := HE.out.1.1.2.1
    have p2 := HE.out.1.1.2.2
    clear q1
    go_wp2_with fail
    refine (putsHaveCells_any S B _ _ _ false _ HE.out.2.1 hc.out.1 hc.out.2.1 hc.out.2.2 F0.out F1.out F2.out Y.out).mono ?_
    rintro e w1 ⟨rfl, q1⟩
    have HE : Hid (BoxEnv w B S (.slice a0 S.nc c0) (.slice a1 S.nl c1) (.slice a2 S.nw c2) w1) := HE.out.later q1
    have p0 := HE.out.1.1.1
    have p1 := HE.out.1.1.2.1
    have p2 := HE.out.1.1.2.2
    clear q1
    go_wp2_with fail
    go_wp2
    go_ret
    exact ⟨by rw [E.out]; rfl, HE.out.2.2⟩
  have Y : Hid (needs S) := y0
  have G3 : Hid (¬ ¬ needs S) := fun h => h y0
  clear y0
  by_cases y0 : once S
  case neg =>
    have E : Hid (storeF S = 6) := by unfold Hid storeF; rw [if_neg HM.out, if_neg G0.out, if_neg G1.out, if_neg G2.out, if_neg G3.out, if_pos y0]
    have Z : Hid (false = true ↔ once S) := ⟨fun h => absurd h (by decide), fun h => absurd h y0⟩
    clear y0
    go_enter Tryz.func9, Tryz.ntmps9
    go_wp2_with fail
    refine (cellsFault_is S _ B 0 F0.out _ HE.out.2.1.1 hc.out.1).mono ?_
    rintro e w1 ⟨rfl, q1⟩
    have HE : Hid (BoxEnv w B S (.slice a0 S.nc c0) (.slice a1 S.nl c1) (.slice a2 S.nw c2) w1) := HE.out.later q1
    have p0 := HE.out.1.1.1
    have p1 := HE.out.1.1.2.1
    have p2 := HE.out.1.1.2.2
    clear q1
    go_wp2_with fail
    refine (locksFault_is S _ B 0 F1.out _ HE.out.2.1.2.1 hc.out.2.1).mono ?_
    rintro e w1 ⟨rfl, q1⟩
    have HE : Hid (BoxEnv w B S (.slice a0 S.nc c0) (.slice a1 S.nl c1) (.slice a2 S.nw c2) w1) := HE.out.later q1
    have p0 := HE.out.1.1.1
    have p1 := HE.out.1.1.2.1
    have p2 := HE.out.1.1.2.2
    clear q1
    go_wp2_with fail
    refine (writesFault_is S _ B 0 F2.out _ HE.out.2.1.2.2 hc.out.2.2).mono ?_
    rintro e w1 ⟨rfl, q1⟩
    have HE : Hid (BoxEnv w B S (.slice a0 S.nc c0) (.slice a1 S.nl c1) (.slice a2 S.nw c2) w1) := HE.out.later q1
    have p0 := HE.out.1.1.1
    have p1 := HE.out.1.1.2.1
    have p2 := HE.out.1.1.2.2
    clear q1
    go_wp2_with fail
    refine (putsHaveCells_any S B _ _ _ true _ HE.out.2.1 hc.out.1 hc.out.2.1 hc.out.2.2 F0.out F1.out F2.out ⟨fun _ => Y.out, fun _ => rfl⟩).mono ?_
    rintro e w1 ⟨rfl, q1⟩
    have HE : Hid (BoxEnv w B S (.slice a0 S.nc c0) (.slice a1 S.nl c1) (.slice a2 S.nw c2) w1) := HE.out.later q1
    have p0 := HE.out.1.1.1
    have p1 := HE.out.1.1.2.1
    have p2 := HE.out.1.1.2.2
    clear q1
    go_wp2_with fail
    refine (startsDiffer_any S B _ _ _ false _ HE.out.2.1 hc.out.2.1 hc.out.2.2 F1.out F2.out Z.out).mono ?_
    rintro e w1 ⟨rfl, q1⟩
    have HE : Hid (BoxEnv w B S (.slice a0 S.nc c0) (.slice a1 S.nl c1) (.slice a2 S.nw c2) w1) := HE.out.later q1
    have p0 := HE.out.1.1.1
    have p1 := HE.out.1.1.2.1
    have p2 := HE.out.1.1.2.2
    clear q1
    go_wp2_with fail
    go_wp2
    go_ret
    exact ⟨by rw [E.out]; rfl, HE.out.2.2⟩
  have E : Hid (storeF S = 0) := by unfold Hid storeF; rw [if_neg HM.out, if_neg G0.out, if_neg G1.out, if_neg G2.out, if_neg G3.out, if_neg (fun h => h y0)]
  have Z : Hid (once S) := y0
  clear y0
  go_enter Tryz.func9, Tryz.ntmps9
  go_wp2_with fail
  refine (cellsFault_is S _ B 0 F0.out _ HE.out.2.1.1 hc.out.1).mono ?_
  rintro e w1 ⟨rfl, q1⟩
  have HE : Hid (BoxEnv w B S (.slice a0 S.nc c0) (.slice a1 S.nl c1) (.slice a2 S.nw c2) w1) := HE.out.later q1
  have p0 := HE.out.1.1.1
  have p1 := HE.out.1.1.2.1
  have p2 := HE.out.1.1.2.2
  clear q1
  go_wp2_with fail
  refine (locksFault_is S _ B 0 F1.out _ HE.out.2.1.2.1 hc.out.2.1).mono ?_
  rintro e w1 ⟨rfl, q1⟩
  have HE : Hid (BoxEnv w B S (.slice a0 S.nc c0) (.slice a1 S.nl c1) (.slice a2 S.nw c2) w1) := HE.out.later q1
  have p0 := HE.out.1.1.1
  have p1 := HE.out.1.1.2.1
  have p2 := HE.out.1.1.2.2
  clear q1
  go_wp2_with fail
  refine (writesFault_is S _ B 0 F2.out _ HE.out.2.1.2.2 hc.out.2.2).mono ?_
  rintro e w1 ⟨rfl, q1⟩
  have HE : Hid (BoxEnv w B S (.slice a0 S.nc c0) (.slice a1 S.nl c1) (.slice a2 S.nw c2) w1) := HE.out.later q1
  have p0 := HE.out.1.1.1
  have p1 := HE.out.1.1.2.1
  have p2 := HE.out.1.1.2.2
  clear q1
  go_wp2_with fail
  refine (putsHaveCells_any S B _ _ _ true _ HE.out.2.1 hc.out.1 hc.out.2.1 hc.out.2.2 F0.out F1.out F2.out ⟨fun _ => Y.out, fun _ => rfl⟩).mono ?_
  rintro e w1 ⟨rfl, q1⟩
  have HE : Hid (BoxEnv w B S (.slice a0 S.nc c0) (.slice a1 S.nl c1) (.slice a2 S.nw c2) w1) := HE.out.later q1
  have p0 := HE.out.1.1.1
  have p1 := HE.out.1.1.2.1
  have p2 := HE.out.1.1.2.2
  clear q1
  go_wp2_with fail
  refine (startsDiffer_any S B _ _ _ true _ HE.out.2.1 hc.out.2.1 hc.out.2.2 F1.out F2.out ⟨fun _ => Z.out, fun _ => rfl⟩).mono ?_
  rintro e w1 ⟨rfl, q1⟩
  have HE : Hid (BoxEnv w B S (.slice a0 S.nc c0) (.slice a1 S.nl c1) (.slice a2 S.nw c2) w1) := HE.out.later q1
  have p0 := HE.out.1.1.1
  have p1 := HE.out.1.1.2.1
  have p2 := HE.out.1.1.2.2
  clear q1
  go_wp2_with fail
  go_wp2
  go_ret
  exact ⟨by rw [E.out]; rfl, HE.out.2.2⟩
end Go.Proofs.YtgedodcojalidaaGreat

namespace Go.Proofs.YtgedodcojalidaaGreat
open Go.RowKit

theorem ask_bad {S : Sto} {key : Int} (h : storeF S ≠ 0) : askF S key = storeF S := by unfold askF; rw [if_pos h]
theorem ask_key {S : Sto} {key : Int} (h : storeF S = 0) : askF S key = faultOf key := by unfold askF; rw [if_neg (fun q => q h)]
set_option maxRecDepth 10000 in
theorem asked_any (S : Sto) (b : Nat) (v0 v1 v2 : Value) (key : Int) (w : World) (h : Lies w b S v0 v1 v2) :
    Calls Tryz.prog 85 #[.pointer (some ⟨b, 0, none⟩), .int .i64 key] w fun e w' => e = .returned (.int .i64 (askF S key)) ∧ Below w.heap.size w w' := by
  have H : Hid (Lies w b S v0 v1 v2) := h
  clear h
  by_cases hz : storeF S = 0
  · have E : Hid (askF S key = faultOf key) := ask_key hz
    have Z : Hid (storeF S = 0) := hz
    clear hz
    obtain ⟨f, hf⟩ : ∃ f, Hid (faultOf key = f) := ⟨_, rfl⟩
    go_enter Tryz.func85, Tryz.ntmps85
    go_wp2_with fail
    refine (l2Fault_any S b _ _ _ _ H.out).mono ?_
    rw [Z.out]
    rintro e w1 ⟨rfl, q1⟩
    have Q : Hid (Below w.heap.size w w1) := q1
    clear q1
    go_wp2_with fail
    refine (l1Fault_any key _).mono ?_
    rw [hf.out]
    rintro e w2 ⟨rfl, rfl⟩
    go_wp2
    go_ret
    exact ⟨by rw [E.out, hf.out]; rfl, Q.out⟩
  · have E : Hid (askF S key = storeF S) := ask_bad hz
    obtain ⟨f, hf⟩ : ∃ f, storeF S = f := ⟨_, rfl⟩
    have HF : Hid (storeF S = f) := hf
    have hfn : (f == 0) = false := beq_eq_false_iff_ne.2 (by rw [← hf]; exact hz)
    clear hz hf
    go_enter Tryz.func85, Tryz.ntmps85
    go_wp2_with fail
    refine (l2Fault_any S b _ _ _ _ H.out).mono ?_
    rw [HF.out]
    rintro e w1 ⟨rfl, q1⟩
    have Q : Hid (Below w.heap.size w w1) := q1
    clear q1
    go_wp2
    go_ret
    exact ⟨by rw [E.out, HF.out]; rfl, Q.out⟩
end Go.Proofs.YtgedodcojalidaaGreat

namespace Go.Proofs.YtgedodcojalidaaGreat
open Go.RowKit

def lockIs (l : Nat → Int) (a : Int) (i : Nat) : Prop := l (i * 5) = a
set_option maxRecDepth 10000 in
set_option maxHeartbeats 2000000 in
theorem l2Lock_anyO (S : Sto) (b oo : Nat) (v0 v1 v2 : Value) (a : Int) (w : World) (h : LiesO w b oo S v0 v1 v2) (hn : S.nl ≤ 200) :
    Calls Tryz.prog 63 #[.pointer (some ⟨b, oo, none⟩), .int .i64 a] w fun e w' => ∃ r : Int, e = .returned (.int .i64 r) ∧ FirstAt (lockIs S.l a) S.nl r ∧ w' = w := by
  obtain ⟨a0, c0, a1, c1, a2, c2, rfl, rfl, rfl⟩ := h.2.form
  have H : Hid (LiesO w b oo S (.slice a0 S.nc c0) (.slice a1 S.nl c1) (.slice a2 S.nw c2)) := h
  have p0 := h.1.2.1
  have hb := h.lt
  clear h
  go_enter Tryz.func63, Tryz.ntmps63
  go_wp2
  go_loop [5] (fun i => ∃ k : Nat, k ≤ S.nl ∧ i = .int .i64 k ∧ Hid (∀ j, j < k → ¬ lockIs S.l a j)) (fun i => S.nl - (intOf i).toNat)
  case atStart => exact ⟨0, Nat.zero_le _, rfl, fun j hj => absurd hj (Nat.not_lt_zero j)⟩
  case round =>
    obtain ⟨k, hk, rfl, HS⟩ := hrel
    by_cases hlt : k < S.nl
    case neg =>
      obtain rfl : k = S.nl := by omega
      go_wp2
      go_ret
      exact ⟨_, rfl, Or.inl ⟨rfl, HS.out⟩, rfl⟩
    obtain ⟨g, o, rfl, _, hg, x0, x1, x2, x3, x4⟩ := H.out.2.2.1.at5 hlt
    obtain ⟨n0, N0⟩ : ∃ x, S.l (k * 5) = x := ⟨_, rfl⟩
    rw [N0] at x0
    by_cases h0 : n0 = a
    · have E : Hid (lockIs S.l a k) := N0.trans h0
      clear N0
      subst h0
      go_wp2
      go_ret
      exact ⟨_, rfl, Or.inr ⟨k, hlt, rfl, E.out, HS.out⟩, rfl⟩
    · have E : Hid (∀ j, j < k + 1 → ¬ lockIs S.l a j) := all_next HS.out (fun q => h0 (N0.symm.trans q))
      have d0 : (n0 == a) = false := beq_eq_false_iff_ne.2 h0
      clear N0 HS h0
      go_wp2
      go_round
      case rel => exact ⟨k + 1, by omega, by go_num, E⟩
      case measure => simp [intOf]; omega
theorem l2Lock_isO (S : Sto) (b oo : Nat) (v0 v1 v2 : Value) (a r : Int) (w : World) (h : LiesO w b oo S v0 v1 v2) (hn : S.nl ≤ 200) (hr : FirstAt (lockIs S.l a) S.nl r) :
    Calls Tryz.prog 63 #[.pointer (some ⟨b, oo, none⟩), .int .i64 a] w fun e w' => e = .returned (.int .i64 r) ∧ w' = w :=
  (l2Lock_anyO S b oo v0 v1 v2 a w h hn).mono fun e w' ⟨r', he, hr', hw⟩ => ⟨by rw [he, hr.one hr'], hw⟩
theorem l2Lock_is (S : Sto) (b : Nat) (v0 v1 v2 : Value) (a r : Int) (w : World) (h : Lies w b S v0 v1 v2) (hn : S.nl ≤ 200) (hr : FirstAt (lockIs S.l a) S.nl r) :
    Calls Tryz.prog 63 #[.pointer (some ⟨b, 0, none⟩), .int .i64 a] w fun e w' => e = .returned (.int .i64 r) ∧ w' = w := l2Lock_isO S b 0 v0 v1 v2 a r w h hn hr
end Go.Proofs.YtgedodcojalidaaGreat

