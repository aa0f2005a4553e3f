/-
  Own text, merged of ColsX, ColsY, GrpL, WldM, WldN.
-/
import Derived.Test.YtpfmifpjmcmlaaaGreatPk5
namespace Go.Proofs.YtpfmifpjmcmlaaaGreat
section
open Go.RowKit Go.Maps
theorem all_next {p : Nat → Prop} {k : Nat} (h : ∀ j, j < k → p j) (q : p k) : ∀ j, j < k + 1 → p j := fun j hj => by
  rcases Nat.lt_or_ge j k with e | e
  · exact h j e
  · obtain rfl : j = k := by omega
    exact q
/-- The places of the puts among the first k structs (m numbers each; number kd the kind, number st the start). -/
def selP (F : Nat → Int) (m kd st : Nat) : Nat → List (Int × Int)
  | 0 => []
  | k + 1 => selP F m kd st k ++ (if F (k * m + kd) = 1 then [(F (k * m), F (k * m + st))] else [])
theorem selP_yes {F : Nat → Int} {m kd st k : Nat} (h : F (k * m + kd) = 1) : selP F m kd st (k + 1) = selP F m kd st k ++ [(F (k * m), F (k * m + st))] := by rw [selP, if_pos h]
theorem selP_no {F : Nat → Int} {m kd st k : Nat} (h : F (k * m + kd) ≠ 1) : selP F m kd st (k + 1) = selP F m kd st k := by rw [selP, if_neg h, List.append_nil]
theorem selP_le (F : Nat → Int) (m kd st : Nat) : ∀ k, (selP F m kd st k).length ≤ k
  | 0 => Nat.le_refl _
  | k + 1 => by
    have ih := selP_le F m kd st k
    by_cases h : F (k * m + kd) = 1
    · rw [selP_yes h, List.length_append, List.length_singleton]; omega
    · rw [selP_no h]; omega
theorem selP_mem {F : Nat → Int} {m kd st : Nat} (x y : Int) : ∀ k, (x, y) ∈ selP F m kd st k ↔ ∃ i, i < k ∧ F (i * m + kd) = 1 ∧ F (i * m) = x ∧ F (i * m + st) = y
  | 0 => by simp [selP]
  | k + 1 => by
    have ih := selP_mem (F := F) (m := m) (kd := kd) (st := st) x y k
    by_cases h : F (k * m + kd) = 1
    · rw [selP_yes h, List.mem_append, ih, List.mem_singleton, Prod.mk.injEq]
      constructor
      · rintro (⟨i, hi, r⟩ | ⟨rfl, rfl⟩)
        · exact ⟨i, by omega, r⟩
        · exact ⟨k, by omega, h, rfl, rfl⟩
      · rintro ⟨i, hi, r, rx, ry⟩
        by_cases e : i = k
        · subst e; exact Or.inr ⟨rx.symm, ry.symm⟩
        · exact Or.inl ⟨i, by omega, r, rx, ry⟩
    · rw [selP_no h, ih]
      constructor
      · rintro ⟨i, hi, r⟩; exact ⟨i, by omega, r⟩
      · rintro ⟨i, hi, r⟩
        by_cases e : i = k
        · subst e; exact absurd r.1 h
        · exact ⟨i, by omega, r⟩
/-- The numbers of a list of pairs. -/
def flat : List (Int × Int) → List Int
  | [] => []
  | p :: t => p.1 :: p.2 :: flat t
theorem flat_append (a b : List (Int × Int)) : flat (a ++ b) = flat a ++ flat b := by
  induction a with
  | nil => rfl
  | cons p t ih => simp [flat, ih]
theorem flat_length (a : List (Int × Int)) : (flat a).length = a.length * 2 := by
  induction a with
  | nil => rfl
  | cons p t ih => simp [flat, ih]; omega
theorem flat_at (a : List (Int × Int)) (i : Nat) (hi : i < a.length) : (flat a).getD (i * 2) 0 = (a[i]'hi).1 ∧ (flat a).getD (i * 2 + 1) 0 = (a[i]'hi).2 := by
  induction a generalizing i with
  | nil => simp at hi
  | cons p t ih =>
    match i, hi with
    | 0, _ => exact ⟨rfl, rfl⟩
    | i + 1, hi =>
      have := ih i (by simpa using hi)
      rw [show (i + 1) * 2 = i * 2 + 1 + 1 by omega]
      exact this
/-- A row of places that a call has made since w. -/
def Plc (w : World) (v : Value) (P : List (Int × Int)) (x : World) : Prop := OwnM x w.heap.size 224 2 v P.length (flat P) ∧ Below w.heap.size w x
theorem Plc.later {w x x' : World} {v : Value} {P : List (Int × Int)} (h : Plc w v P x) (hb : Below x.heap.size x x') : Plc w v P x' := ⟨h.1.later hb, h.2.trans (hb.mono h.2.size)⟩
theorem Plc.form {w x : World} {v : Value} {P : List (Int × Int)} (h : Plc w v P x) : ∃ ao cp, v = .slice ao P.length cp := h.1.form
theorem Plc.step {w x x' : World} {v v' : Value} {P : List (Int × Int)} {a b : Int} (h : Plc w v P x) (ho : x'.ownsRow w.heap.size 224 2 v' (P.length + 1) ((flat P).map (Value.int .i64) ++ [.int .i64 a, .int .i64 b])) (hg : x.grownBy x' v.ownBlock) : Plc w v' (P ++ [(a, b)]) x' := by
  refine ⟨?_, below_grownBy h.2 h.2.size (fun bb hbb => (h.1.block bb hbb).1) hg⟩
  unfold OwnM
  rw [flat_append, List.map_append, List.length_append]
  exact ho
theorem Plc.row {w x : World} {v : Value} {P : List (Int × Int)} (h : Plc w v P x) : Row x w.heap.size 2 P.length (fun p => (flat P).getD p 0) v := (h.1.own (flat_length P)).row.1
theorem infoz_place : (Tryz.prog.info? 224).map (fun i => (i.zero, i.size, i.bytes)) = some (some (.agg #[.int .i64 0, .int .i64 0]), 2, 16) := by kernel_rfl
def putP (nl : Nat) (l : Nat → Int) (nw : Nat) (k : Nat → Int) : List (Int × Int) := selP l 5 2 1 nl ++ selP k 4 3 2 nw
set_option maxRecDepth 100000 in
set_option maxHeartbeats 4000000 in
theorem putPlaces_any (nl : Nat) (l : Nat → Int) (nw : Nat) (kk : Nat → Int) (B : Nat) (v1 v2 : Value) (w : World) (h1 : Row w B 5 nl l v1) (h2 : Row w B 4 nw kk v2) (hl : nl ≤ 200) (hk : nw ≤ 200) :
    Calls Tryz.prog 159 #[v1, v2] w fun e w' => ∃ v, e = .returned v ∧ Plc w v (putP nl l nw kk) w' := by
  unfold putP
  obtain ⟨a1, c1, rfl⟩ := h1.form
  obtain ⟨a2, c2, rfl⟩ := h2.form
  have H1 : Hid (Row w B 5 nl l (.slice a1 nl c1)) := h1
  have H2 : Hid (Row w B 4 nw kk (.slice a2 nw c2)) := h2
  obtain ⟨i0, hi, hz0, hz1, hz2⟩ := info_parts infoz_place
  have HS0 : Hid (Plc w (.slice none 0 0) (selP l 5 2 1 0) w) := ⟨OwnM.nil _ _ _ _, Below.refl _ _⟩
  clear h1 h2
  go_enter Tryz.func159, Tryz.ntmps159
  go_wp2
  go_loopw [5, 12] (fun v i wr => ∃ (k : Nat), k ≤ nl ∧ i = .int .i64 k ∧ Hid (Plc w v (selP l 5 2 1 k) wr)) (fun _ i _ => nl - (intOf i).toNat)
  case atStart => exact ⟨0, Nat.zero_le _, rfl, HS0⟩
  case round =>
    clear HS0
    obtain ⟨k, hk, rfl, HS⟩ := hrel
    obtain ⟨ao, cp, rfl⟩ := HS.out.form
    by_cases hlt : k < nl
    case neg =>
      obtain rfl : nl = k := by omega
      have HS1 : Hid (Plc w (.slice ao (selP l 5 2 1 nl).length cp) (selP l 5 2 1 nl ++ selP kk 4 3 2 0) wr) := by
        unfold Hid
        rw [show selP kk 4 3 2 0 = [] from rfl, List.append_nil]
        exact HS.out
      clear HS
      go_wp2
      go_loopw [5, 30] (fun v i wr => ∃ (k : Nat), k ≤ nw ∧ i = .int .i64 k ∧ Hid (Plc w v (selP l 5 2 1 nl ++ selP kk 4 3 2 k) wr)) (fun _ i _ => nw - (intOf i).toNat)
      case atStart => exact ⟨0, Nat.zero_le _, rfl, HS1⟩
      case round =>
        clear HS1
        obtain ⟨k, hk, rfl, HS⟩ := hrel
        obtain ⟨ao, cp, rfl⟩ := HS.out.form
        by_cases hlt : k < nw
        case neg =>
          obtain rfl : nw = k := by omega
          go_wp2
          go_ret
          exact ⟨_, rfl, HS.out⟩
        obtain ⟨g, o, rfl, _, hg, x0, x1, x2, x3⟩ := (H2.out.later HS.out.2).at4 hlt
        obtain ⟨n0, N0⟩ : ∃ x, kk (k * 4) = x := ⟨_, rfl⟩
        rw [N0] at x0
        obtain ⟨n1, N1⟩ : ∃ x, kk (k * 4 + 1) = x := ⟨_, rfl⟩
        rw [N1] at x1
        obtain ⟨n2, N2⟩ : ∃ x, kk (k * 4 + 2) = x := ⟨_, rfl⟩
        rw [N2] at x2
        obtain ⟨n3, N3⟩ : ∃ x, kk (k * 4 + 3) = x := ⟨_, rfl⟩
        rw [N3] at x3
        have hP2 : Hid (Plc w (.slice ao (selP l 5 2 1 nl ++ selP kk 4 3 2 k).length cp) (selP l 5 2 1 nl ++ selP kk 4 3 2 k) (wr.alloc (.cells #[.int .i64 n0, .int .i64 n1, .int .i64 n2, .int .i64 n3] 181))) := HS.out.later (below_alloc _ _)
        by_cases hp : n3 = 1
        case neg =>
          have hd : (n3 == 1) = false := beq_eq_false_iff_ne.2 hp
          have E : Hid (Plc w (.slice ao (selP l 5 2 1 nl ++ selP kk 4 3 2 k).length cp) (selP l 5 2 1 nl ++ selP kk 4 3 2 (k + 1)) (wr.alloc (.cells #[.int .i64 n0, .int .i64 n1, .int .i64 n2, .int .i64 n3] 181))) := by
            unfold Hid
            rw [selP_no (by rw [N3]; exact hp)]
            exact hP2.out
          clear N0 N1 N2 N3 hp HS hP2
          go_wp2
          go_roundw
          case rel => exact ⟨k + 1, by omega, by go_num, E⟩
          case measure => simp [intOf]; omega
        subst hp
        have HL : Hid ((selP l 5 2 1 nl ++ selP kk 4 3 2 (k + 1)) = (selP l 5 2 1 nl ++ selP kk 4 3 2 k) ++ [(n0, n2)]) := by
          unfold Hid
          rw [selP_yes (by rw [N3])]
          rw [N0, N2, List.append_assoc]
        have hnle : (selP l 5 2 1 nl ++ selP kk 4 3 2 k).length ≤ 400 := by
          rw [List.length_append]
          have q0 := selP_le l 5 2 1 nl
          have q1 := selP_le kk 4 3 2 k
          omega
        obtain ⟨PP, hPP⟩ : ∃ PP, (selP l 5 2 1 nl ++ selP kk 4 3 2 k) = PP := ⟨_, rfl⟩
        rw [hPP] at HL hP2 hnle HS
        rw [hPP]
        have hP3 : Hid (Plc w (.slice ao PP.length cp) PP ((wr.alloc (.cells #[.int .i64 n0, .int .i64 n1, .int .i64 n2, .int .i64 1] 181)).alloc (.cells #[.int .i64 n0, .int .i64 n2] 224))) := hP2.out.later (below_alloc _ _)
        have hown := hP3.out.1
        have hsz : w.heap.size ≤ wr.heap.size := HS.out.2.size
        clear N0 N1 N2 N3 HS hP2 hPP
        go_wp2_with (at_builtin; refine wpList_append_own _ rfl _ _ 221 rfl w.heap.size 224 i0 (.agg #[.int .i64 0, .int .i64 0]) 2 16 Tryz.underlying221 hi hz0 hz1 hz2 rfl (by decide) _ _ _ rfl hown ⟨_, 0, none⟩ 1 1 [.int .i64 n0, .int .i64 n2] rfl rfl ?c1 ?c2 ?c3 ?c4 ?c5 ?_)
        case c1 =>
          intro q u hq
          match q, hq with
          | 0, hq => simp at hq; subst hq; simp [Addr.add]
          | 1, hq => simp at hq; subst hq; simp [Addr.add]
        case c2 =>
          intro u hu
          simp at hu
          rcases hu with rfl | rfl <;> rfl
        case c3 => unfold maxLen; omega
        case c4 => omega
        case c5 => simp; omega
        intro v' w2 ho hg2 _
        have E2 : Hid (Plc w v' (selP l 5 2 1 nl ++ selP kk 4 3 2 (k + 1)) w2) := by
          unfold Hid
          rw [HL.out]
          exact hP3.out.step ho hg2
        clear ho hg2 hown hP3 HL
        go_wp2
        go_roundw
        case rel => exact ⟨k + 1, by omega, by go_num, E2⟩
        case measure => simp [intOf]; omega
    obtain ⟨g, o, rfl, _, hg, x0, x1, x2, x3, x4⟩ := (H1.out.later HS.out.2).at5 hlt
    obtain ⟨n0, N0⟩ : ∃ x, l (k * 5) = x := ⟨_, rfl⟩
    rw [N0] at x0
    obtain ⟨n1, N1⟩ : ∃ x, l (k * 5 + 1) = x := ⟨_, rfl⟩
    rw [N1] at x1
    obtain ⟨n2, N2⟩ : ∃ x, l (k * 5 + 2) = x := ⟨_, rfl⟩
    rw [N2] at x2
    obtain ⟨n3, N3⟩ : ∃ x, l (k * 5 + 3) = x := ⟨_, rfl⟩
    rw [N3] at x3
    obtain ⟨n4, N4⟩ : ∃ x, l (k * 5 + 4) = x := ⟨_, rfl⟩
    rw [N4] at x4
    have hP2 : Hid (Plc w (.slice ao (selP l 5 2 1 k).length cp) (selP l 5 2 1 k) (wr.alloc (.cells #[.int .i64 n0, .int .i64 n1, .int .i64 n2, .int .i64 n3, .int .i64 n4] 177))) := HS.out.later (below_alloc _ _)
    by_cases hp : n2 = 1
    case neg =>
      have hd : (n2 == 1) = false := beq_eq_false_iff_ne.2 hp
      have E : Hid (Plc w (.slice ao (selP l 5 2 1 k).length cp) (selP l 5 2 1 (k + 1)) (wr.alloc (.cells #[.int .i64 n0, .int .i64 n1, .int .i64 n2, .int .i64 n3, .int .i64 n4] 177))) := by
        unfold Hid
        rw [selP_no (by rw [N2]; exact hp)]
        exact hP2.out
      clear N0 N1 N2 N3 N4 hp HS hP2
      go_wp2
      go_roundw
      case rel => exact ⟨k + 1, by omega, by go_num, E⟩
      case measure => simp [intOf]; omega
    subst hp
    have HL : Hid ((selP l 5 2 1 (k + 1)) = (selP l 5 2 1 k) ++ [(n0, n1)]) := by
      unfold Hid
      rw [selP_yes (by rw [N2])]
      rw [N0, N1]
    have hnle : (selP l 5 2 1 k).length ≤ 400 := by
      have q1 := selP_le l 5 2 1 k
      omega
    obtain ⟨PP, hPP⟩ : ∃ PP, (selP l 5 2 1 k) = PP := ⟨_, rfl⟩
    rw [hPP] at HL hP2 hnle HS
    rw [hPP]
    have hP3 : Hid (Plc w (.slice ao PP.length cp) PP ((wr.alloc (.cells #[.int .i64 n0, .int .i64 n1, .int .i64 1, .int .i64 n3, .int .i64 n4] 177)).alloc (.cells #[.int .i64 n0, .int .i64 n1] 224))) := hP2.out.later (below_alloc _ _)
    have hown := hP3.out.1
    have hsz : w.heap.size ≤ wr.heap.size := HS.out.2.size
    clear N0 N1 N2 N3 N4 HS hP2 hPP
    go_wp2_with (at_builtin; refine wpList_append_own _ rfl _ _ 221 rfl w.heap.size 224 i0 (.agg #[.int .i64 0, .int .i64 0]) 2 16 Tryz.underlying221 hi hz0 hz1 hz2 rfl (by decide) _ _ _ rfl hown ⟨_, 0, none⟩ 1 1 [.int .i64 n0, .int .i64 n1] rfl rfl ?c1 ?c2 ?c3 ?c4 ?c5 ?_)
    case c1 =>
      intro q u hq
      match q, hq with
      | 0, hq => simp at hq; subst hq; simp [Addr.add]
      | 1, hq => simp at hq; subst hq; simp [Addr.add]
    case c2 =>
      intro u hu
      simp at hu
      rcases hu with rfl | rfl <;> rfl
    case c3 => unfold maxLen; omega
    case c4 => omega
    case c5 => simp; omega
    intro v' w2 ho hg2 _
    have E2 : Hid (Plc w v' (selP l 5 2 1 (k + 1)) w2) := by
      unfold Hid
      rw [HL.out]
      exact hP3.out.step ho hg2
    clear ho hg2 hown hP3 HL
    go_wp2
    go_roundw
    case rel => exact ⟨k + 1, by omega, by go_num, E2⟩
    case measure => simp [intOf]; omega
theorem putP_needs {S : Sto} : (∀ x y, (x, y) ∈ putP S.nl S.l S.nw S.k → hasCell S S.nc x y) ↔ needs S := by
  unfold putP needs
  constructor
  · intro h
    exact ⟨fun i hi q => h _ _ (List.mem_append.2 (Or.inr ((selP_mem _ _ _).2 ⟨i, hi, q, rfl, rfl⟩))), fun i hi q => h _ _ (List.mem_append.2 (Or.inl ((selP_mem _ _ _).2 ⟨i, hi, q, rfl, rfl⟩)))⟩
  · intro h x y hm
    rcases List.mem_append.1 hm with q | q
    · obtain ⟨i, hi, q1, rfl, rfl⟩ := (selP_mem _ _ _).1 q
      exact h.2 i hi q1
    · obtain ⟨i, hi, q1, rfl, rfl⟩ := (selP_mem _ _ _).1 q
      exact h.1 i hi q1
theorem putP_wf {nl : Nat} {l : Nat → Int} {nw : Nat} {k : Nat → Int} (z1 : ∀ i, i < nl → lockF l i = 0) (z2 : ∀ i, i < nw → writeF k i = 0) {x y : Int} (h : (x, y) ∈ putP nl l nw k) : Wf x ∧ Wf y := by
  rcases List.mem_append.1 h with q | q
  · obtain ⟨i, hi, q1, rfl, rfl⟩ := (selP_mem _ _ _).1 q
    have e := lockF_zero (z1 i hi)
    have f := faultOf_zero e.1
    exact ⟨wf_small f.1 (by omega), wf_small (by omega) e.2.2⟩
  · obtain ⟨i, hi, q1, rfl, rfl⟩ := (selP_mem _ _ _).1 q
    have e := writeF_zero (z2 i hi)
    have f := faultOf_zero e.1
    exact ⟨wf_small f.1 (by omega), wf_small (by omega) e.2.2.2.2.1⟩
set_option maxRecDepth 100000 in
set_option maxHeartbeats 4000000 in
theorem putsHaveCells_any (S : Sto) (B : Nat) (v0 v1 v2 : Value) (r : Bool) (w : World) (h : St w B S v0 v1 v2) (hc : S.nc ≤ 200) (hl : S.nl ≤ 200) (hk : S.nw ≤ 200) (z0 : scan (cellF S.c) S.nc = 0) (z1 : scan (lockF S.l) S.nl = 0) (z2 : scan (writeF S.k) S.nw = 0) (hr : r = true ↔ needs S) :
    Calls Tryz.prog 113 #[.agg #[v0, v1, v2]] w fun e w' => e = .returned (.bool r) ∧ Below w.heap.size w w' := by
  obtain ⟨a0, c0, a1, c1, a2, c2, rfl, rfl, rfl⟩ := h.form
  have H : Hid (St w B S (.slice a0 S.nc c0) (.slice a1 S.nl c1) (.slice a2 S.nw c2)) := h
  have HR : Hid (r = true ↔ (∀ x y, (x, y) ∈ putP S.nl S.l S.nw S.k → hasCell S S.nc x y)) := hr.trans putP_needs.symm
  have HW : Hid (∀ x y, (x, y) ∈ putP S.nl S.l S.nw S.k → Wf x ∧ Wf y) := fun x y => putP_wf (scan_zero z1) (scan_zero z2)
  have Z0 : Hid (scan (cellF S.c) S.nc = 0) := z0
  clear h hr z0 z1 z2
  go_enter Tryz.func113, Tryz.ntmps113
  go_wp2_with fail
  refine (cellsByPlace_any S _ B _ ((H.out.alloc _).1) hc Z0.out).mono ?_
  rintro e w1 ⟨rfl, HP, hb1⟩
  have hB : Below w.heap.size w w1 := (below_alloc _ _).trans (hb1.mono (by simp))
  have hB3 := (Blk3.new w (.slice a0 S.nc c0) (.slice a1 S.nl c1) (.slice a2 S.nw c2) 127).later hb1
  have y1 := hB3.1.2.1
  have y2 := hB3.1.2.2
  have hsz : (w.alloc (.cells #[.slice a0 S.nc c0, .slice a1 S.nl c1, .slice a2 S.nw c2] 127)).heap.size = w.heap.size + 1 := by simp
  rw [hsz] at HP hb1
  rw [hsz]
  have HP1 : Hid (PM w1 (w.heap.size + 1) S.nc (cellM S S.nc)) := HP
  clear HP hb1 hB3 hsz
  go_wp2_with fail
  refine (putPlaces_any S.nl S.l S.nw S.k B _ _ w1 (H.out.later hB).2.1 (H.out.later hB).2.2 hl hk).mono ?_
  rintro e w2 ⟨v, rfl, HQ⟩
  obtain ⟨ao, cp, rfl⟩ := HQ.form
  obtain ⟨P, hP⟩ : ∃ P, putP S.nl S.l S.nw S.k = P := ⟨_, rfl⟩
  have hPl : P.length ≤ 400 := by
    rw [← hP, putP, List.length_append]
    have q0 := selP_le S.l 5 2 1 S.nl
    have q1 := selP_le S.k 4 3 2 S.nw
    omega
  rw [hP] at HR HW HQ
  rw [hP]
  clear hP y1 y2
  have HB2 : Hid (Below w.heap.size w w2) := hB.trans (HQ.2.mono hB.size)
  have HM : Hid (PM w2 (w.heap.size + 1) S.nc (cellM S S.nc)) := HP1.out.later HQ.2
  have HO : Hid (Row w2 w1.heap.size 2 P.length (fun p => (flat P).getD p 0) (.slice ao P.length cp)) := HQ.row
  clear HQ hB HP1 H
  go_wp2
  go_loopw [17] (fun i wr => ∃ (k : Nat), k ≤ P.length ∧ i = .int .i64 k ∧ Hid (∀ j, (hj : j < k) → (hj2 : j < P.length) → hasCell S S.nc (P[j]'hj2).1 (P[j]'hj2).2) ∧ Hid (Below w2.heap.size w2 wr)) (fun i _ => P.length - (intOf i).toNat)
  case atStart => exact ⟨0, Nat.zero_le _, rfl, fun j hj => absurd hj (Nat.not_lt_zero j), Below.refl _ _⟩
  case round =>
    obtain ⟨k, hk', rfl, HS, HE⟩ := hrel
    have HB3 : Hid (Below w.heap.size w wr) := HB2.out.trans (HE.out.mono HB2.out.size)
    by_cases hlt : k < P.length
    case neg =>
      have E : Hid (r = true) := HR.out.2 (fun x y hm => by
        obtain ⟨j, hj, e⟩ := List.mem_iff_getElem.1 hm
        have := HS.out j (by omega) hj
        rw [e] at this
        exact this)
      clear HS
      go_wp2
      go_ret
      exact ⟨by rw [E.out]; rfl, HB3.out⟩
    obtain ⟨g, o, ha, _, hg, hx⟩ := (HO.out.later HE.out).at hlt
    subst ha
    have x0 := hx 0 (by omega)
    have x1 := hx 1 (by omega)
    have hfa := flat_at P k hlt
    obtain ⟨n0, N0⟩ : ∃ x, (P[k]'hlt).1 = x := ⟨_, rfl⟩
    obtain ⟨n1, N1⟩ : ∃ x, (P[k]'hlt).2 = x := ⟨_, rfl⟩
    simp only [Nat.add_zero] at x0
    rw [hfa.1, N0] at x0
    rw [hfa.2, N1] at x1
    have hmem : (n0, n1) ∈ P := by rw [← N0, ← N1]; exact List.getElem_mem hlt
    have hwf := HW.out n0 n1 hmem
    have hM2 := (HM.out.later HE.out).alloc (.cells #[.int .i64 n0, .int .i64 n1] 224)
    have hlk := hM2.look hwf.1 hwf.2
    have HB4 : Hid (Below w2.heap.size w2 (wr.alloc (.cells #[.int .i64 n0, .int .i64 n1] 224))) := HE.out.alloc HE.out.size _
    have HB5 : Hid (Below w.heap.size w (wr.alloc (.cells #[.int .i64 n0, .int .i64 n1] 224))) := HB3.out.alloc HB3.out.size _
    obtain ⟨u, hu⟩ : ∃ u, (cellM S S.nc n0 n1).getD 0 = u := ⟨_, rfl⟩
    rw [hu] at hlk
    have hch := cellM_has S S.nc n0 n1
    cases hs : (cellM S S.nc n0 n1).isSome with
    | true =>
      rw [hs] at hlk hch
      have E : Hid (∀ j, (hj : j < k + 1) → (hj2 : j < P.length) → hasCell S S.nc (P[j]'hj2).1 (P[j]'hj2).2) := fun j hj hj2 => by
        by_cases e : j = k
        · subst e; rw [N0, N1]; exact hch.1 rfl
        · exact HS.out j (by omega) hj2
      clear hs hch hu hM2 hwf hmem hfa N0 N1 hx HS HE HB3
      go_wp2
      go_roundw
      case rel => exact ⟨k + 1, by omega, by go_num, E, HB4⟩
      case measure => simp [intOf]; omega
    | false =>
      rw [hs] at hlk hch
      have E : Hid (r = false) := by
        cases r with
        | false => rfl
        | true => exact absurd (hch.2 (HR.out.1 rfl n0 n1 hmem)) Bool.false_ne_true
      clear hs hch hu hM2 hwf hmem hfa N0 N1 hx HS HE HB3
      go_wp2
      go_ret
      exact ⟨by rw [E.out]; rfl, HB5.out⟩
end

section
open Go.RowKit Go.Maps
/-- What the loops of startsDiffer stand on. -/
def StartEnv (w : World) (S : Sto) (v0 v1 v2 : Value) (k : Nat) (x : World) : Prop := Blk3 x w.heap.size v0 v1 v2 ∧ PM x (w.heap.size + 1) k (writeM S k) ∧ Below w.heap.size w x
theorem StartEnv.later {w x x' : World} {S : Sto} {v0 v1 v2 : Value} {k : Nat} (h : StartEnv w S v0 v1 v2 k x) (hb : Below x.heap.size x x') : StartEnv w S v0 v1 v2 k x' :=
  ⟨h.1.later hb, h.2.1.later hb, h.2.2.trans (hb.mono h.2.2.size)⟩
set_option maxRecDepth 100000 in
set_option maxHeartbeats 4000000 in
theorem startsDiffer_any (S : Sto) (B : Nat) (v0 v1 v2 : Value) (r : Bool) (w : World) (h : St w B S v0 v1 v2) (hl : S.nl ≤ 200) (hk : S.nw ≤ 200) (z1 : scan (lockF S.l) S.nl = 0) (z2 : scan (writeF S.k) S.nw = 0) (hr : r = true ↔ once S) :
    Calls Tryz.prog 114 #[.agg #[v0, v1, v2]] w fun e w' => e = .returned (.bool r) ∧ Below w.heap.size w w' := by
  obtain ⟨a0, c0, a1, c1, a2, c2, rfl, rfl, rfl⟩ := h.form
  have H : Hid (St w B S (.slice a0 S.nc c0) (.slice a1 S.nl c1) (.slice a2 S.nw c2)) := h
  have HR : Hid (r = true ↔ once S) := hr
  have Z1 : Hid (∀ i, i < S.nl → lockF S.l i = 0) := scan_zero z1
  have Z2 : Hid (∀ i, i < S.nw → writeF S.k i = 0) := scan_zero z2
  clear h hr z1 z2
  have hmm := run_makeMap_i64
  have HE : Hid (StartEnv w S (.slice a0 S.nc c0) (.slice a1 S.nl c1) (.slice a2 S.nw c2) 0 ((w.alloc (.cells #[.slice a0 S.nc c0, .slice a1 S.nl c1, .slice a2 S.nw c2] 127)).alloc (.map #[] 0))) := by
    have hP := PM.made (w.alloc (.cells #[.slice a0 S.nc c0, .slice a1 S.nl c1, .slice a2 S.nw c2] 127))
    rw [show (w.alloc (.cells #[.slice a0 S.nc c0, .slice a1 S.nl c1, .slice a2 S.nw c2] 127)).heap.size = w.heap.size + 1 from by simp] at hP
    exact ⟨(Blk3.new w _ _ _ _).alloc _, hP, (below_alloc _ _).alloc (by simp) _⟩
  go_enter Tryz.func114, Tryz.ntmps114
  go_wp2
  go_loopw [20] (fun i wr => ∃ k : Nat, k ≤ S.nw ∧ i = .int .i64 k ∧ Hid (∀ j, j < k → onceW S j) ∧ Hid (StartEnv w S (.slice a0 S.nc c0) (.slice a1 S.nl c1) (.slice a2 S.nw c2) k wr)) (fun i _ => S.nw - (intOf i).toNat)
  case atStart => exact ⟨0, Nat.zero_le _, rfl, fun j hj => absurd hj (Nat.not_lt_zero j), HE⟩
  case round =>
    clear HE
    obtain ⟨k, hk', rfl, HS, HE⟩ := hrel
    by_cases hlt : k < S.nw
    case neg =>
      obtain rfl : k = S.nw := by omega
      have HW : Hid (∀ i, i < S.nw → onceW S i) := HS
      have y1 := HE.out.1.1.2.1
      clear HS
      go_wp2
      clear y1 hk' hlt
      go_loopw [44] (fun i wr => ∃ k : Nat, k ≤ S.nl ∧ i = .int .i64 k ∧ Hid (∀ j, j < k → onceL S j) ∧ Hid (StartEnv w S (.slice a0 S.nc c0) (.slice a1 S.nl c1) (.slice a2 S.nw c2) S.nw wr)) (fun i _ => S.nl - (intOf i).toNat)
      case atStart => exact ⟨0, Nat.zero_le _, rfl, fun j hj => absurd hj (Nat.not_lt_zero j), HE⟩
      case round =>
        clear HE
        obtain ⟨k, hk', rfl, HS, HE⟩ := hrel
        by_cases hlt : k < S.nl
        case neg =>
          have E : Hid (r = true) := HR.out.2 ⟨HW.out, fun i hi => HS.out i (by omega)⟩
          clear HS
          go_wp2
          go_ret
          exact ⟨by rw [E.out]; rfl, HE.out.2.2⟩
        obtain ⟨g, o, rfl, _, hg, x0, x1, x2, x3, x4⟩ := (H.out.2.1.later HE.out.2.2).at5 hlt
        obtain ⟨n0, N0⟩ : ∃ x, S.l (k * 5) = x := ⟨_, rfl⟩
        rw [N0] at x0
        obtain ⟨n1, N1⟩ : ∃ x, S.l (k * 5 + 1) = x := ⟨_, rfl⟩
        rw [N1] at x1
        obtain ⟨n2, N2⟩ : ∃ x, S.l (k * 5 + 2) = x := ⟨_, rfl⟩
        rw [N2] at x2
        obtain ⟨n3, N3⟩ : ∃ x, S.l (k * 5 + 3) = x := ⟨_, rfl⟩
        rw [N3] at x3
        obtain ⟨n4, N4⟩ : ∃ x, S.l (k * 5 + 4) = x := ⟨_, rfl⟩
        rw [N4] at x4
        have ZZ := lockF_zero (Z1.out k hlt)
        rw [N0, N1] at ZZ
        have hk2 := faultOf_zero ZZ.1
        have hw0 : Wf n0 := wf_small hk2.1 (by omega)
        have hw1 : Wf n1 := wf_small (by omega) (by omega)
        have hE2 : StartEnv w S (.slice a0 S.nc c0) (.slice (some ⟨g, o, none⟩) S.nl c1) (.slice a2 S.nw c2) S.nw (wr.alloc (.cells #[.int .i64 n0, .int .i64 n1, .int .i64 n2, .int .i64 n3, .int .i64 n4] 177)) := HE.out.later (below_alloc wr _)
        have PU : Hid (onceL S k ↔ ¬ hasWrite S S.nw n0 n1) := by
          unfold Hid onceL
          rw [N0, N1]
        clear N0 N1 N2 N3 N4 ZZ hk2
        have hlk := hE2.2.1.look hw0 hw1
        obtain ⟨u, hu⟩ : ∃ u, (writeM S S.nw n0 n1).getD 0 = u := ⟨_, rfl⟩
        rw [hu] at hlk
        clear hu
        by_cases hp : onceL S k
        · have hs : (writeM S S.nw n0 n1).isSome = false := by
            cases hq : (writeM S S.nw n0 n1).isSome with
            | false => rfl
            | true => exact absurd ((writeM_has S _ _ _).1 hq) (PU.out.1 hp)
          rw [hs] at hlk
          clear hs
          have E : Hid (∀ j, j < k + 1 → onceL S j) := all_next HS.out hp
          have HE2 : Hid (StartEnv w S (.slice a0 S.nc c0) (.slice (some ⟨g, o, none⟩) S.nl c1) (.slice a2 S.nw c2) S.nw (wr.alloc (.cells #[.int .i64 n0, .int .i64 n1, .int .i64 n2, .int .i64 n3, .int .i64 n4] 177))) := hE2
          clear hE2 HS PU hp hw0 hw1
          go_wp2
          go_roundw
          case rel => exact ⟨k + 1, by omega, by go_num, E, HE2⟩
          case measure => simp [intOf]; omega
        · have hs : (writeM S S.nw n0 n1).isSome = true := by
            refine (writeM_has S _ _ _).2 (Classical.byContradiction fun q => hp (PU.out.2 q))
          rw [hs] at hlk
          clear hs
          have E : Hid (r = false) := by
            cases r with
            | false => rfl
            | true => exact absurd ((HR.out.1 rfl).2 k hlt) hp
          have HE2 : Hid (StartEnv w S (.slice a0 S.nc c0) (.slice (some ⟨g, o, none⟩) S.nl c1) (.slice a2 S.nw c2) S.nw (wr.alloc (.cells #[.int .i64 n0, .int .i64 n1, .int .i64 n2, .int .i64 n3, .int .i64 n4] 177))) := hE2
          clear hE2 HS PU hp hw0 hw1
          go_wp2
          go_ret
          exact ⟨by rw [E.out]; rfl, HE2.out.2.2⟩
    obtain ⟨g, o, rfl, _, hg, x0, x1, x2, x3⟩ := (H.out.2.2.later HE.out.2.2).at4 hlt
    obtain ⟨n0, N0⟩ : ∃ x, S.k (k * 4) = x := ⟨_, rfl⟩
    rw [N0] at x0
    obtain ⟨n1, N1⟩ : ∃ x, S.k (k * 4 + 1) = x := ⟨_, rfl⟩
    rw [N1] at x1
    obtain ⟨n2, N2⟩ : ∃ x, S.k (k * 4 + 2) = x := ⟨_, rfl⟩
    rw [N2] at x2
    obtain ⟨n3, N3⟩ : ∃ x, S.k (k * 4 + 3) = x := ⟨_, rfl⟩
    rw [N3] at x3
    have ZZ := writeF_zero (Z2.out k hlt)
    rw [N0, N2, N3] at ZZ
    have hk2 := faultOf_zero ZZ.1
    have hw0 : Wf n0 := wf_small hk2.1 (by omega)
    have hw1 : Wf n2 := wf_small (by omega) (by omega)
    have hw2 : Wf n3 := wf_small (by omega) (by omega)
    have hE2 : StartEnv w S (.slice a0 S.nc c0) (.slice a1 S.nl c1) (.slice (some ⟨g, o, none⟩) S.nw c2) k ((wr.alloc (.cells #[.int .i64 n0, .int .i64 n1, .int .i64 n2, .int .i64 n3] 181)).alloc (.cells #[.int .i64 n0, .int .i64 n2] 224)) := (HE.out.later (below_alloc wr _)).later (below_alloc _ _)
    have PU : Hid (onceW S k ↔ ¬ hasWrite S k n0 n2) := by
      unfold Hid onceW
      rw [N0, N2]
    have NN : Hid (S.k (k * 4) = n0 ∧ S.k (k * 4 + 2) = n2 ∧ S.k (k * 4 + 3) = n3) := ⟨N0, N2, N3⟩
    clear N0 N1 N2 N3 ZZ hk2
    have hlk := hE2.2.1.look hw0 hw1
    obtain ⟨u, hu⟩ : ∃ u, (writeM S k n0 n2).getD 0 = u := ⟨_, rfl⟩
    rw [hu] at hlk
    clear hu
    by_cases hp : onceW S k
    · have hs : (writeM S k n0 n2).isSome = false := by
        cases hq : (writeM S k n0 n2).isSome with
        | false => rfl
        | true => exact absurd ((writeM_has S _ _ _).1 hq) (PU.out.1 hp)
      rw [hs] at hlk
      clear hs
      have E : Hid (∀ j, j < k + 1 → onceW S j) := all_next HS.out hp
      have hP := hE2.2.1
      have hB2 := hE2.2.2
      have HB3 : Hid (Blk3 ((wr.alloc (.cells #[.int .i64 n0, .int .i64 n1, .int .i64 n2, .int .i64 n3] 181)).alloc (.cells #[.int .i64 n0, .int .i64 n2] 224)) w.heap.size (.slice a0 S.nc c0) (.slice a1 S.nl c1) (.slice (some ⟨g, o, none⟩) S.nw c2)) := hE2.1
      have hsz : w.heap.size < ((wr.alloc (.cells #[.int .i64 n0, .int .i64 n1, .int .i64 n2, .int .i64 n3] 181)).alloc (.cells #[.int .i64 n0, .int .i64 n2] 224)).heap.size := hE2.1.lt
      clear hE2 HS PU hp
      go_wp2_with (first | (at_mapUpdate; refine wpList_put _ rfl _ _ _ rfl (w.heap.size + 1) k _ rfl hP (small_maxLen (Nat.le_trans hk' hk)) n0 n2 n3 rfl rfl hw0 hw1 hw2 ?_; intro w4 hP4 hg4) | go_in)
      go_roundw
      case rel => exact ⟨k + 1, by omega, by go_num, E, ⟨HB3.out.kept (hg4.block _ hsz (by simp)), by rw [← NN.out.1, ← NN.out.2.1, ← NN.out.2.2] at hP4; exact hP4, below_grown hB2 (Nat.le_of_lt hsz) (Nat.le_succ _) hg4⟩⟩
      case measure => simp [intOf]; omega
    · have hs : (writeM S k n0 n2).isSome = true := by
        refine (writeM_has S _ _ _).2 (Classical.byContradiction fun q => hp (PU.out.2 q))
      rw [hs] at hlk
      clear hs
      have E : Hid (r = false) := by
        cases r with
        | false => rfl
        | true => exact absurd ((HR.out.1 rfl).1 k hlt) hp
      have HE2 : Hid (StartEnv w S (.slice a0 S.nc c0) (.slice a1 S.nl c1) (.slice (some ⟨g, o, none⟩) S.nw c2) k ((wr.alloc (.cells #[.int .i64 n0, .int .i64 n1, .int .i64 n2, .int .i64 n3] 181)).alloc (.cells #[.int .i64 n0, .int .i64 n2] 224))) := hE2
      clear hE2 HS PU hp hw0 hw1 hw2
      go_wp2
      go_ret
      exact ⟨by rw [E.out]; rfl, HE2.out.2.2⟩
end
end Go.Proofs.YtpfmifpjmcmlaaaGreat

namespace Go.Proofs.YtpfmifpjmcmlaaaGreat
open Go.RowKit

theorem cellsFault_is (S : Sto) (v : Value) (B : Nat) (r : Int) (hr : scan (cellF S.c) S.nc = r) (w : World) (h : Row w B 3 S.nc S.c v) (hn : S.nc ≤ 200) :
    Calls Tryz.prog 110 #[v] w fun e w' => e = .returned (.int .i64 r) ∧ Below w.heap.size w w' :=
  (cellsFault_any S v B w h hn).mono fun e w' ⟨he, hw⟩ => ⟨by rw [he, hr], hw⟩
theorem locksFault_is (S : Sto) (v : Value) (B : Nat) (r : Int) (hr : scan (lockF S.l) S.nl = r) (w : World) (h : Row w B 5 S.nl S.l v) (hn : S.nl ≤ 200) :
    Calls Tryz.prog 111 #[v] w fun e w' => e = .returned (.int .i64 r) ∧ Below w.heap.size w w' :=
  (locksFault_any S v B w h hn).mono fun e w' ⟨he, hw⟩ => ⟨by rw [he, hr], hw⟩
theorem writesFault_is (S : Sto) (v : Value) (B : Nat) (r : Int) (hr : scan (writeF S.k) S.nw = r) (w : World) (h : Row w B 4 S.nw S.k v) (hn : S.nw ≤ 200) :
    Calls Tryz.prog 112 #[v] w fun e w' => e = .returned (.int .i64 r) ∧ Below w.heap.size w w' :=
  (writesFault_any S v B w h hn).mono fun e w' ⟨he, hw⟩ => ⟨by rw [he, hr], hw⟩
/-- What StoreFault stands on: its own copy of the store. -/
def BoxEnv (w : World) (B : Nat) (S : Sto) (v0 v1 v2 : Value) (x : World) : Prop := Blk3 x w.heap.size v0 v1 v2 ∧ St x B S v0 v1 v2 ∧ Below w.heap.size w x
theorem BoxEnv.later {w x x' : World} {B : Nat} {S : Sto} {v0 v1 v2 : Value} (h : BoxEnv w B S v0 v1 v2 x) (hb : Below x.heap.size x x') : BoxEnv w B S v0 v1 v2 x' :=
  ⟨h.1.later hb, h.2.1.later hb, h.2.2.trans (hb.mono h.2.2.size)⟩
set_option maxRecDepth 10000 in
set_option maxHeartbeats 4000000 in
theorem implFault_any (S : Sto) (v0 v1 v2 : Value) (B : Nat) (w : World) (h : St w B S v0 v1 v2) :
    Calls Tryz.prog 77 #[.agg #[v0, v1, v2]] w fun e w' => e = .returned (.int .i64 (storeF S)) ∧ Below w.heap.size w w' := by
  obtain ⟨a0, c0, a1, c1, a2, c2, rfl, rfl, rfl⟩ := h.form
  have HE : Hid (BoxEnv w B S (.slice a0 S.nc c0) (.slice a1 S.nl c1) (.slice a2 S.nw c2) (w.alloc (.cells #[.slice a0 S.nc c0, .slice a1 S.nl c1, .slice a2 S.nw c2] 127))) := ⟨Blk3.new w _ _ _ _, h.alloc _, below_alloc _ _⟩
  clear h
  by_cases m0 : 200 < S.nc
  · have E : Hid (storeF S = 2) := by unfold Hid storeF; rw [if_pos (Or.inl m0)]
    go_enter Tryz.func77, Tryz.ntmps77
    go_wp2_with fail
    go_wp2
    go_ret
    exact ⟨by rw [E.out]; rfl, HE.out.2.2⟩
  have m0' : decide ((200 : Int) < (S.nc : Int)) = false := decide_eq_false (by omega)
  by_cases m1 : 200 < S.nl
  · have E : Hid (storeF S = 2) := by unfold Hid storeF; rw [if_pos (Or.inr (Or.inl m1))]
    clear m0
    go_enter Tryz.func77, Tryz.ntmps77
    go_wp2_with fail
    go_wp2
    go_ret
    exact ⟨by rw [E.out]; rfl, HE.out.2.2⟩
  have m1' : decide ((200 : Int) < (S.nl : Int)) = false := decide_eq_false (by omega)
  by_cases m2 : 200 < S.nw
  · have E : Hid (storeF S = 2) := by unfold Hid storeF; rw [if_pos (Or.inr (Or.inr m2))]
    clear m0 m1
    go_enter Tryz.func77, Tryz.ntmps77
    go_wp2_with fail
    go_wp2
    go_ret
    exact ⟨by rw [E.out]; rfl, HE.out.2.2⟩
  have m2' : decide ((200 : Int) < (S.nw : Int)) = false := decide_eq_false (by omega)
  have HM : Hid (¬ (200 < S.nc ∨ 200 < S.nl ∨ 200 < S.nw)) := by unfold Hid; omega
  have hc : Hid (S.nc ≤ 200 ∧ S.nl ≤ 200 ∧ S.nw ≤ 200) := ⟨by omega, by omega, by omega⟩
  clear m0 m1 m2
  by_cases z0 : scan (cellF S.c) S.nc = 0
  case neg =>
    obtain ⟨f, hf⟩ : ∃ f, scan (cellF S.c) S.nc = f := ⟨_, rfl⟩
    have E : Hid (storeF S = f) := by unfold Hid storeF; rw [if_neg HM.out, if_pos z0]; exact hf
    have hfn : (f == 0) = false := beq_eq_false_iff_ne.2 (by rw [← hf]; exact z0)
    have F0 : Hid (scan (cellF S.c) S.nc = f) := hf
    clear hf z0
    go_enter Tryz.func77, Tryz.ntmps77
    go_wp2_with fail
    refine (cellsFault_is S _ B f F0.out _ HE.out.2.1.1 hc.out.1).mono ?_
    rintro e w1 ⟨rfl, q1⟩
    have HE : Hid (BoxEnv w B S (.slice a0 S.nc c0) (.slice a1 S.nl c1) (.slice a2 S.nw c2) w1) := HE.out.later q1
    have p0 := HE.out.1.1.1
    have p1 := HE.out.1.1.2.1
    have p2 := HE.out.1.1.2.2
    clear q1
    go_wp2_with fail
    go_wp2
    go_ret
    exact ⟨by rw [E.out]; rfl, HE.out.2.2⟩
  have F0 : Hid (scan (cellF S.c) S.nc = 0) := z0
  have G0 : Hid (¬ scan (cellF S.c) S.nc ≠ 0) := fun h => h z0
  clear z0
  by_cases z0 : scan (lockF S.l) S.nl = 0
  case neg =>
    obtain ⟨f, hf⟩ : ∃ f, scan (lockF S.l) S.nl = f := ⟨_, rfl⟩
    have E : Hid (storeF S = f) := by unfold Hid storeF; rw [if_neg HM.out, if_neg G0.out, if_pos z0]; exact hf
    have hfn : (f == 0) = false := beq_eq_false_iff_ne.2 (by rw [← hf]; exact z0)
    have F1 : Hid (scan (lockF S.l) S.nl = f) := hf
    clear hf z0
    go_enter Tryz.func77, Tryz.ntmps77
    go_wp2_with fail
    refine (cellsFault_is S _ B 0 F0.out _ HE.out.2.1.1 hc.out.1).mono ?_
    rintro e w1 ⟨rfl, q1⟩
    have HE : Hid (BoxEnv w B S (.slice a0 S.nc c0) (.slice a1 S.nl c1) (.slice a2 S.nw c2) w1) := HE.out.later q1
    have p0 := HE.out.1.1.1
    have p1 := HE.out.1.1.2.1
    have p2 := HE.out.1.1.2.2
    clear q1
    go_wp2_with fail
    refine (locksFault_is S _ B f F1.out _ HE.out.2.1.2.1 hc.out.2.1).mono ?_
    rintro e w1 ⟨rfl, q1⟩
    have HE : Hid (BoxEnv w B S (.slice a0 S.nc c0) (.slice a1 S.nl c1) (.slice a2 S.nw c2) w1) := HE.out.later q1
    have p0 := HE.out.1.1.1
    have p1 := HE.out.1.1.2.1
    have p2 := HE.out.1.1.2.2
    clear q1
    go_wp2_with fail
    go_wp2
    go_ret
    exact ⟨by rw [E.out]; rfl, HE.out.2.2⟩
  have F1 : Hid (scan (lockF S.l) S.nl = 0) := z0
  have G1 : Hid (¬ scan (lockF S.l) S.nl ≠ 0) := fun h => h z0
  clear z0
  by_cases z0 : scan (writeF S.k) S.nw = 0
  case neg =>
    obtain ⟨f, hf⟩ : ∃ f, scan (writeF S.k) S.nw = f := ⟨_, rfl⟩
    have E : Hid (storeF S = f) := by unfold Hid storeF; rw [if_neg HM.out, if_neg G0.out, if_neg G1.out, if_pos z0]; exact hf
    have hfn : (f == 0) = false := beq_eq_false_iff_ne.2 (by rw [← hf]; exact z0)
    have F2 : Hid (scan (writeF S.k) S.nw = f) := hf
    clear hf z0
    go_enter Tryz.func77, Tryz.ntmps77
    go_wp2_with fail
    refine (cellsFault_is S _ B 0 F0.out _ HE.out.2.1.1 hc.out.1).mono ?_
    rintro e w1 ⟨rfl, q1⟩
    have HE : Hid (BoxEnv w B S (.slice a0 S.nc c0) (.slice a1 S.nl c1) (.slice a2 S.nw c2) w1) := HE.out.later q1
    have p0 := HE.out.1.1.1
    have p1 := HE.out.1.1.2.1
    have p2 := HE.out.1.1.2.2
    clear q1
    go_wp2_with fail
    refine (locksFault_is S _ B 0 F1.out _ HE.out.2.1.2.1 hc.out.2.1).mono ?_
    rintro e w1 ⟨rfl, q1⟩
    have HE : Hid (BoxEnv w B S (.slice a0 S.nc c0) (.slice a1 S.nl c1) (.slice a2 S.nw c2) w1) := HE.out.later q1
    have p0 := HE.out.1.1.1
    have p1 := HE.out.1.1.2.1
    have p2 := HE.out.1.1.2.2
    clear q1
    go_wp2_with fail
    refine (writesFault_is S _ B f F2.out _ HE.out.2.1.2.2 hc.out.2.2).mono ?_
    rintro e w1 ⟨rfl, q1⟩
    have HE : Hid (BoxEnv w B S (.slice a0 S.nc c0) (.slice a1 S.nl c1) (.slice a2 S.nw c2) w1) := HE.out.later q1
    have p0 := HE.out.1.1.1
    have p1 := HE.out.1.1.2.1
    have p2 := HE.out.1.1.2.2
    clear q1
    go_wp2_with fail
    go_wp2
    go_ret
    exact ⟨by rw [E.out]; rfl, HE.out.2.2⟩
  have F2 : Hid (scan (writeF S.k) S.nw = 0) := z0
  have G2 : Hid (¬ scan (writeF S.k) S.nw ≠ 0) := fun h => h z0
  clear z0
  by_cases y0 : needs S
  case neg =>
    have E : Hid (storeF S = 4) := by unfold Hid storeF; rw [if_neg HM.out, if_neg G0.out, if_neg G1.out, if_neg G2.out, if_pos y0]
    have Y : Hid (false = true ↔ needs S) := ⟨fun h => absurd h (by decide), fun h => absurd h y0⟩
    clear y0
    go_enter Tryz.func77, Tryz.ntmps77
    go_wp2_with fail
    refine (cellsFault_is S _ B 0 F0.out _ HE.out.2.1.1 hc.out.1).mono ?_
    rintro e w1 ⟨rfl, q1⟩
    have HE : Hid (BoxEnv w B S (.slice a0 S.nc c0) (.slice a1 S.nl c1) (.slice a2 S.nw c2) w1) := HE.out.later q1
    have p0 := HE.out.1.1.1
    have p1 := HE.out.1.1.2.1
    have p2 := HE.out.1.1.2.2
    clear q1
    go_wp2_with fail
    refine (locksFault_is S _ B 0 F1.out _ HE.out.2.1.2.1 hc.out.2.1).mono ?_
    rintro e w1 ⟨rfl, q1⟩
    have HE : Hid (BoxEnv w B S (.slice a0 S.nc c0) (.slice a1 S.nl c1) (.slice a2 S.nw c2) w1) := HE.out.later q1
    have p0 := HE.out.1.1.1
    have p1 := HE.out.1.1.2.1
    have p2 := HE.out.1.1.2.2
    clear q1
    go_wp2_with fail
    refine (writesFault_is S _ B 0 F2.out _ HE.out.2.1.2.2 hc.out.2.2).mono ?_
    rintro e w1 ⟨rfl, q1⟩
    have HE : Hid (BoxEnv w B S (.slice a0 S.nc c0) (.slice a1 S.nl c1) (.slice a2 S.nw c2) w1) := HE.out.later q1
    have p0 := HE.out.1.1.1
    have p1 := HE.out.1.1.2.1
    have p2 := HE.out.1.1.2.2
    clear q1
    go_wp2_with fail
    refine (putsHaveCells_any S B _ _ _ false _ HE.out.2.1 hc.out.1 hc.out.2.1 hc.out.2.2 F0.out F1.out F2.out Y.out).mono ?_
    rintro e w1 ⟨rfl, q1⟩
    have HE : Hid (BoxEnv w B S (.slice a0 S.nc c0) (.slice a1 S.nl c1) (.slice a2 S.nw c2) w1) := HE.out.later q1
    have p0 := HE.out.1.1.1
    have p1 := HE.out.1.1.2.1
    have p2 := HE.out.1.1.2.2
    clear q1
    go_wp2_with fail
    go_wp2
    go_ret
    exact ⟨by rw [E.out]; rfl, HE.out.2.2⟩
  have Y : Hid (needs S) := y0
  have G3 : Hid (¬ ¬ needs S) := fun h => h y0
  clear y0
  by_cases y0 : once S
  case neg =>
    have E : Hid (storeF S = 6) := by unfold Hid storeF; rw [if_neg HM.out, if_neg G0.out, if_neg G1.out, if_neg G2.out, if_neg G3.out, if_pos y0]
    have Z : Hid (false = true ↔ once S) := ⟨fun h => absurd h (by decide), fun h => absurd h y0⟩
    clear y0
    go_enter Tryz.func77, Tryz.ntmps77
    go_wp2_with fail
    refine (cellsFault_is S _ B 0 F0.out _ HE.out.2.1.1 hc.out.1).mono ?_
    rintro e w1 ⟨rfl, q1⟩
    have HE : Hid (BoxEnv w B S (.slice a0 S.nc c0) (.slice a1 S.nl c1) (.slice a2 S.nw c2) w1) := HE.out.later q1
    have p0 := HE.out.1.1.1
    have p1 := HE.out.1.1.2.1
    have p2 := HE.out.1.1.2.2
    clear q1
    go_wp2_with fail
    refine (locksFault_is S _ B 0 F1.out _ HE.out.2.1.2.1 hc.out.2.1).mono ?_
    rintro e w1 ⟨rfl, q1⟩
    have HE : Hid (BoxEnv w B S (.slice a0 S.nc c0) (.slice a1 S.nl c1) (.slice a2 S.nw c2) w1) := HE.out.later q1
    have p0 := HE.out.1.1.1
    have p1 := HE.out.1.1.2.1
    have p2 := HE.out.1.1.2.2
    clear q1
    go_wp2_with fail
    refine (writesFault_is S _ B 0 F2.out _ HE.out.2.1.2.2 hc.out.2.2).mono ?_
    rintro e w1 ⟨rfl, q1⟩
    have HE : Hid (BoxEnv w B S (.slice a0 S.nc c0) (.slice a1 S.nl c1) (.slice a2 S.nw c2) w1) := HE.out.later q1
    have p0 := HE.out.1.1.1
    have p1 := HE.out.1.1.2.1
    have p2 := HE.out.1.1.2.2
    clear q1
    go_wp2_with fail
    refine (putsHaveCells_any S B _ _ _ true _ HE.out.2.1 hc.out.1 hc.out.2.1 hc.out.2.2 F0.out F1.out F2.out ⟨fun _ => Y.out, fun _ => rfl⟩).mono ?_
    rintro e w1 ⟨rfl, q1⟩
    have HE : Hid (BoxEnv w B S (.slice a0 S.nc c0) (.slice a1 S.nl c1) (.slice a2 S.nw c2) w1) := HE.out.later q1
    have p0 := HE.out.1.1.1
    have p1 := HE.out.1.1.2.1
    have p2 := HE.out.1.1.2.2
    clear q1
    go_wp2_with fail
    refine (startsDiffer_any S B _ _ _ false _ HE.out.2.1 hc.out.2.1 hc.out.2.2 F1.out F2.out Z.out).mono ?_
    rintro e w1 ⟨rfl, q1⟩
    have HE : Hid (BoxEnv w B S (.slice a0 S.nc c0) (.slice a1 S.nl c1) (.slice a2 S.nw c2) w1) := HE.out.later q1
    have p0 := HE.out.1.1.1
    have p1 := HE.out.1.1.2.1
    have p2 := HE.out.1.1.2.2
    clear q1
    go_wp2_with fail
    go_wp2
    go_ret
    exact ⟨by rw [E.out]; rfl, HE.out.2.2⟩
  have E : Hid (storeF S = 0) := by unfold Hid storeF; rw [if_neg HM.out, if_neg G0.out, if_neg G1.out, if_neg G2.out, if_neg G3.out, if_neg (fun h => h y0)]
  have Z : Hid (once S) := y0
  clear y0
  go_enter Tryz.func77, Tryz.ntmps77
  go_wp2_with fail
  refine (cellsFault_is S _ B 0 F0.out _ HE.out.2.1.1 hc.out.1).mono ?_
  rintro e w1 ⟨rfl, q1⟩
  have HE : Hid (BoxEnv w B S (.slice a0 S.nc c0) (.slice a1 S.nl c1) (.slice a2 S.nw c2) w1) := HE.out.later q1
  have p0 := HE.out.1.1.1
  have p1 := HE.out.1.1.2.1
  have p2 := HE.out.1.1.2.2
  clear q1
  go_wp2_with fail
  refine (locksFault_is S _ B 0 F1.out _ HE.out.2.1.2.1 hc.out.2.1).mono ?_
  rintro e w1 ⟨rfl, q1⟩
  have HE : Hid (BoxEnv w B S (.slice a0 S.nc c0) (.slice a1 S.nl c1) (.slice a2 S.nw c2) w1) := HE.out.later q1
  have p0 := HE.out.1.1.1
  have p1 := HE.out.1.1.2.1
  have p2 := HE.out.1.1.2.2
  clear q1
  go_wp2_with fail
  refine (writesFault_is S _ B 0 F2.out _ HE.out.2.1.2.2 hc.out.2.2).mono ?_
  rintro e w1 ⟨rfl, q1⟩
  have HE : Hid (BoxEnv w B S (.slice a0 S.nc c0) (.slice a1 S.nl c1) (.slice a2 S.nw c2) w1) := HE.out.later q1
  have p0 := HE.out.1.1.1
  have p1 := HE.out.1.1.2.1
  have p2 := HE.out.1.1.2.2
  clear q1
  go_wp2_with fail
  refine (putsHaveCells_any S B _ _ _ true _ HE.out.2.1 hc.out.1 hc.out.2.1 hc.out.2.2 F0.out F1.out F2.out ⟨fun _ => Y.out, fun _ => rfl⟩).mono ?_
  rintro e w1 ⟨rfl, q1⟩
  have HE : Hid (BoxEnv w B S (.slice a0 S.nc c0) (.slice a1 S.nl c1) (.slice a2 S.nw c2) w1) := HE.out.later q1
  have p0 := HE.out.1.1.1
  have p1 := HE.out.1.1.2.1
  have p2 := HE.out.1.1.2.2
  clear q1
  go_wp2_with fail
  refine (startsDiffer_any S B _ _ _ true _ HE.out.2.1 hc.out.2.1 hc.out.2.2 F1.out F2.out ⟨fun _ => Z.out, fun _ => rfl⟩).mono ?_
  rintro e w1 ⟨rfl, q1⟩
  have HE : Hid (BoxEnv w B S (.slice a0 S.nc c0) (.slice a1 S.nl c1) (.slice a2 S.nw c2) w1) := HE.out.later q1
  have p0 := HE.out.1.1.1
  have p1 := HE.out.1.1.2.1
  have p2 := HE.out.1.1.2.2
  clear q1
  go_wp2_with fail
  go_wp2
  go_ret
  exact ⟨by rw [E.out]; rfl, HE.out.2.2⟩
end Go.Proofs.YtpfmifpjmcmlaaaGreat

namespace Go.Proofs.YtpfmifpjmcmlaaaGreat
section
open Go.RowKit
/-- The call's blocks: the groups that it was given. -/
def CallG (w : World) (nr : Nat) (F : Nat → Int) (n : Nat) (S : Nat → Sto) (V : Nat → Nat → Value) (B : Nat) (vr vs : Value) (x : World) : Prop := Blk2 x w.heap.size vr vs ∧ Grs x B nr F n S V vr vs ∧ Below w.heap.size w x
theorem CallG.new {w : World} {nr : Nat} {F : Nat → Int} {n : Nat} {S : Nat → Sto} {V : Nat → Nat → Value} {B : Nat} {vr vs : Value} (h : Grs w B nr F n S V vr vs) (t : TypeId) : CallG w nr F n S V B vr vs (w.alloc (.cells #[vr, vs] t)) := ⟨Blk2.new _ _ _ _, h.alloc _, below_alloc _ _⟩
theorem CallG.later {w x x' : World} {nr : Nat} {F : Nat → Int} {n : Nat} {S : Nat → Sto} {V : Nat → Nat → Value} {B : Nat} {vr vs : Value} (h : CallG w nr F n S V B vr vs x) (hb : Below x.heap.size x x') : CallG w nr F n S V B vr vs x' := ⟨h.1.later hb, h.2.1.later hb, h.2.2.trans (hb.mono h.2.2.size)⟩
def RngE7 (w : World) (gr oR k : Nat) (fr tto ep : Int) (a0 : Option Addr) (n c0 : Nat) (q : Nat) (s0 s1 s2 : Value) (x : World) : Prop :=
  Below w.heap.size w x ∧ x.cell? ⟨w.heap.size, 0, none⟩ = some (.slice a0 n c0) ∧ (x.cell? ⟨gr, oR + k * 3, none⟩ = some (.int .i64 fr) ∧ x.cell? ⟨gr, oR + k * 3 + 1, none⟩ = some (.int .i64 tto) ∧ x.cell? ⟨gr, oR + k * 3 + 2, none⟩ = some (.int .i64 ep)) ∧ x.cell? ⟨q, 0, none⟩ = some s0 ∧ x.cell? ⟨q, 1, none⟩ = some s1 ∧ x.cell? ⟨q, 2, none⟩ = some s2
set_option maxRecDepth 100000 in
set_option maxHeartbeats 8000000 in
theorem implGroupsFault_any (nr : Nat) (F : Nat → Int) (n : Nat) (S : Nat → Sto) (V : Nat → Nat → Value) (vr vs : Value) (B : Nat) (w : World) (h : Grs w B nr F n S V vr vs) (hr : nr ≤ 9223372036854775807) (hn : n ≤ 9223372036854775807) :
    Calls Tryz.prog 40 #[.agg #[vr, vs]] w fun e w' => e = .returned (.int .i64 (groupsF nr F n S)) ∧ Below w.heap.size w w' := by
  obtain ⟨a0, c0, a1, c1, rfl, rfl⟩ := h.form
  have H : Hid (CallG w nr F n S V B (.slice a0 nr c0) (.slice a1 n c1) (w.alloc (.cells #[.slice a0 nr c0, .slice a1 n c1] 37))) := CallG.new h _
  clear h
  obtain ⟨⟨p0, p1⟩, _⟩ := H.out.1
  obtain ⟨f, hf⟩ : ∃ f, rangesF nr F = f := ⟨_, rfl⟩
  have HF : Hid (rangesF nr F = f) := hf
  go_enter Tryz.func40, Tryz.ntmps40
  go_wp2_with fail
  refine (implRanges_any _ B nr F _ H.out.2.1.1 hr).mono ?_
  rw [hf]
  rintro e w1 ⟨rfl, q1⟩
  have H1 : Hid (CallG w nr F n S V B (.slice a0 nr c0) (.slice a1 n c1) w1) := H.out.later q1
  clear q1 hf p0 p1 H
  by_cases hz : f = 0
  case neg =>
    have d : (f == 0) = false := beq_eq_false_iff_ne.2 hz
    have d' : (f != 0) = true := bne_iff_ne.2 hz
    have E : Hid (groupsF nr F n S = f) := by unfold Hid groupsF; rw [HF.out, if_pos hz]
    clear hz HF
    go_wp2
    go_ret
    exact ⟨by rw [E.out]; rfl, H1.out.2.2⟩
  subst hz
  have G : Hid (Good nr F) := good_of HF.out
  obtain ⟨⟨p0, p1⟩, _⟩ := H1.out.1
  by_cases hnn : n = nr
  case neg =>
    have d : ((n : Int) != (nr : Int)) = true := bne_iff_ne.2 (by omega)
    have E : Hid (groupsF nr F n S = 1) := by unfold Hid groupsF; rw [HF.out, if_neg (by decide), if_pos hnn]
    clear HF hnn
    go_wp2
    go_ret
    exact ⟨by rw [E.out]; rfl, H1.out.2.2⟩
  have HG : Hid (groupsF nr F n S = if scan (oneF F S) n ≠ 0 then scan (oneF F S) n else if fullG n S then 2 else 0) := by unfold Hid groupsF; rw [HF.out, if_neg (by decide), if_neg (fun q => q hnn)]
  have hn6 : n ≤ 6 := by have := G.out.n6; omega
  subst hnn
  clear HF
  go_wp2
  clear p0 p1
  go_loopw [24] (fun i wr => ∃ k : Nat, k ≤ n ∧ i = .int .i64 k ∧ Hid (scan (oneF F S) k = 0) ∧ Hid (CallG w n F n S V B (.slice a0 n c0) (.slice a1 n c1) wr)) (fun i _ => n - (intOf i).toNat)
  case atStart => exact ⟨0, Nat.zero_le _, rfl, rfl, H1⟩
  case round =>
    obtain ⟨k, hk, rfl, HS, HL⟩ := hrel
    obtain ⟨⟨p0, p1⟩, _⟩ := HL.out.1
    by_cases hlt : k < n
    · obtain ⟨g, o, rfl, _, hg, ⟨b0, b1, b2⟩, sk⟩ := HL.out.2.1.2.at hlt
      obtain ⟨gr, oR, rfl, _, hgr, t0, t1, t2⟩ := HL.out.2.1.1.at3 hlt
      obtain ⟨i0', d0, i1', d1, i2', d2, e0, e1, e2⟩ := sk.form
      obtain ⟨n0, hn0⟩ : ∃ x, (S k).nc = x := ⟨_, rfl⟩
      obtain ⟨n1, hn1⟩ : ∃ x, (S k).nl = x := ⟨_, rfl⟩
      obtain ⟨n2, hn2⟩ : ∃ x, (S k).nw = x := ⟨_, rfl⟩
      rw [e0, hn0] at b0
      rw [e1, hn1] at b1
      rw [e2, hn2] at b2
      rw [e0, e1, e2, hn0, hn1, hn2] at sk
      obtain ⟨fs, hfs⟩ : ∃ x, storeF (S k) = x := ⟨_, rfl⟩
      have HFS : Hid (storeF (S k) = fs) := hfs
      have LS : Hid (St (wr.alloc (.cells #[.slice i0' n0 d0, .slice i1' n1 d1, .slice i2' n2 d2] 127)) B (S k) (.slice i0' n0 d0) (.slice i1' n1 d1) (.slice i2' n2 d2)) := sk.alloc _
      have LQ : Hid (Blk3 (wr.alloc (.cells #[.slice i0' n0 d0, .slice i1' n1 d1, .slice i2' n2 d2] 127)) wr.heap.size (.slice i0' n0 d0) (.slice i1' n1 d1) (.slice i2' n2 d2)) := Blk3.new _ _ _ _ _
      have HL1 : Hid (CallG w n F n S V B (.slice (some ⟨gr, oR, none⟩) n c0) (.slice (some ⟨g, o, none⟩) n c1) (wr.alloc (.cells #[.slice i0' n0 d0, .slice i1' n1 d1, .slice i2' n2 d2] 127))) := HL.out.later (below_alloc _ _)
      clear sk e0 e1 e2 hn0 hn1 hn2 t0 t1 t2 HL
      go_wp2_with fail
      generalize wr.alloc (.cells #[.slice i0' n0 d0, .slice i1' n1 d1, .slice i2' n2 d2] 127) = w2 at LS LQ HL1 ⊢
      generalize wr.heap.size = q at LQ ⊢
      clear b0 b1 b2 p0 p1
      refine (implFault_any (S k) _ _ _ B _ LS.out).mono ?_
      rw [hfs]
      rintro e w3 ⟨rfl, q3⟩
      have HL3 : Hid (CallG w n F n S V B (.slice (some ⟨gr, oR, none⟩) n c0) (.slice (some ⟨g, o, none⟩) n c1) w3) := HL1.out.later q3
      have LQ3 : Hid (Blk3 w3 q (.slice i0' n0 d0) (.slice i1' n1 d1) (.slice i2' n2 d2)) := LQ.out.later q3
      have LS3 : Hid (St w3 B (S k) (.slice i0' n0 d0) (.slice i1' n1 d1) (.slice i2' n2 d2)) := LS.out.later q3
      clear q3 hfs HL1 LQ LS
      by_cases hz : fs = 0
      case neg =>
        have d : (fs == 0) = false := beq_eq_false_iff_ne.2 hz
        have d' : (fs != 0) = true := bne_iff_ne.2 hz
        have E : Hid (groupsF n F n S = fs) := by
          have h1 : oneF F S k = fs := by unfold oneF; rw [HFS.out, if_pos hz]
          have h2 : scan (oneF F S) n = fs := (scan_stop HS.out (by rw [h1]; exact hz) hlt).trans h1
          unfold Hid
          rw [HG.out, h2, if_pos hz]
        clear hz HFS HG HS
        go_wp2
        go_ret
        exact ⟨by rw [E.out]; rfl, HL3.out.2.2⟩
      subst hz
      obtain ⟨gr', oR', he, _, hgr3, t0, t1, t2⟩ := HL3.out.2.1.1.at3 hlt
      simp only [Option.some.injEq, Addr.mk.injEq, and_true] at he
      obtain ⟨rfl, rfl⟩ := he
      obtain ⟨fr, hfr⟩ : ∃ x, F (k * 3) = x := ⟨_, rfl⟩
      obtain ⟨tto, hto⟩ : ∃ x, F (k * 3 + 1) = x := ⟨_, rfl⟩
      obtain ⟨ep, hep⟩ : ∃ x, F (k * 3 + 2) = x := ⟨_, rfl⟩
      rw [hfr] at t0
      rw [hto] at t1
      rw [hep] at t2
      have HFT : Hid (F (k * 3) = fr ∧ F (k * 3 + 1) = tto) := ⟨hfr, hto⟩
      clear hfr hto hep
      have Z := storeF_zero HFS.out
      have HZ : Hid ((S k).nc ≤ 200 ∧ (S k).nl ≤ 200 ∧ (S k).nw ≤ 200) := Z.1
      have RE : Hid (RngE7 w gr oR k fr tto ep (some ⟨gr, oR, none⟩) n c0 q (.slice i0' n0 d0) (.slice i1' n1 d1) (.slice i2' n2 d2) w3) := ⟨HL3.out.2.2, HL3.out.1.1.1, ⟨t0, t1, t2⟩, LQ3.out.1⟩
      clear Z t0 t1 t2
      go_wp2_with fail
      refine wp_region_held_drew (S := RngE7 w gr oR k fr tto ep (some ⟨gr, oR, none⟩) n c0 q (.slice i0' n0 d0) (.slice i1' n1 d1) (.slice i2' n2 d2)) (by kernel_rfl) ⟨below_dr RE.out.1 1, RE.out.2⟩ (fun hS => ?_)
      refine tkH 0 ?_ hS (fun wx hx => ?_) ?_; rotate_left
      · obtain ⟨_, hx0, ⟨hx1, hx2, hx3⟩, hx4, hx5, hx6⟩ := hx; go_simp; try with_reducible rfl
      refine tkH 1 ?_ hS (fun wx hx => ?_) ?_; rotate_left
      · obtain ⟨_, hx0, ⟨hx1, hx2, hx3⟩, hx4, hx5, hx6⟩ := hx; go_simp; try with_reducible rfl
      refine tkH 2 ?_ hS (fun wx hx => ?_) ?_; rotate_left
      · obtain ⟨_, hx0, ⟨hx1, hx2, hx3⟩, hx4, hx5, hx6⟩ := hx; go_simp; try with_reducible rfl
      refine tkH 3 ?_ hS (fun wx hx => ?_) ?_; rotate_left
      · obtain ⟨_, hx0, ⟨hx1, hx2, hx3⟩, hx4, hx5, hx6⟩ := hx; go_simp; try with_reducible rfl
      refine tkH 4 ?_ hS (fun wx hx => ?_) ?_; rotate_left
      · obtain ⟨_, hx0, ⟨hx1, hx2, hx3⟩, hx4, hx5, hx6⟩ := hx; go_simp; try with_reducible rfl
      refine tkH 5 ?_ hS (fun wx hx => ?_) ?_; rotate_left
      · obtain ⟨_, hx0, ⟨hx1, hx2, hx3⟩, hx4, hx5, hx6⟩ := hx; go_simp; try with_reducible rfl
      refine rdH 6 (fun K hK => ?_)
      go_simp
      go_wp2_with fail
      refine (hasStray_any (S k) _ _ _ fr tto ep B _ (LS3.out.later (below_dr (Below.refl _ _) 1)) HZ.out).mono ?_
      by_cases hst : strayS (S k) fr tto
      · rw [decide_eq_true hst]
        rintro e w4 ⟨rfl, q4⟩
        have E : Hid (groupsF n F n S = 3) := by
          have h1 : oneF F S k = 3 := by unfold oneF; rw [HFS.out, if_neg (by decide), HFT.out.1, HFT.out.2, if_pos hst]
          have h2 : scan (oneF F S) n = 3 := (scan_stop HS.out (by rw [h1]; decide) hlt).trans h1
          unfold Hid
          rw [HG.out, h2, if_pos (by decide)]
        have q4' : Below w3.heap.size w3 w4 := ⟨q4.os, q4.tape, q4.output, q4.size, q4.block⟩
        have HL4 : Hid (CallG w n F n S V B (.slice (some ⟨gr, oR, none⟩) n c0) (.slice (some ⟨g, o, none⟩) n c1) w4) := HL3.out.later q4'
        have hS' : RngE7 w gr oR k fr tto ep (some ⟨gr, oR, none⟩) n c0 q (.slice i0' n0 d0) (.slice i1' n1 d1) (.slice i2' n2 d2) w4 := ⟨HL4.out.2.2, HL4.out.1.1.1, ⟨(q4'.cell (p := ⟨gr, oR + k * 3, none⟩) hgr3).trans hS.2.2.1.1, (q4'.cell (p := ⟨gr, oR + k * 3 + 1, none⟩) hgr3).trans hS.2.2.1.2.1, (q4'.cell (p := ⟨gr, oR + k * 3 + 2, none⟩) hgr3).trans hS.2.2.1.2.2⟩, (LQ3.out.later q4').1⟩
        clear q4 q4' hst HFS HG HS
        go_wp2_with fail
        refine hK.out _ _ hS' (fun hS => ?_)
        clear hK K hS'
        refine wpAnyH_done (by kernel_rfl) ?_ _
        clear hS
        go_simp
        go_wp2
        go_ret
        exact ⟨by rw [E.out]; rfl, HL4.out.2.2⟩
      · rw [decide_eq_false hst]
        rintro e w4 ⟨rfl, q4⟩
        have HS1 : Hid (scan (oneF F S) (k + 1) = 0) := scan_go HS.out (by unfold oneF; rw [HFS.out, if_neg (by decide), HFT.out.1, HFT.out.2, if_neg hst])
        have q4' : Below w3.heap.size w3 w4 := ⟨q4.os, q4.tape, q4.output, q4.size, q4.block⟩
        have HL4 : Hid (CallG w n F n S V B (.slice (some ⟨gr, oR, none⟩) n c0) (.slice (some ⟨g, o, none⟩) n c1) w4) := HL3.out.later q4'
        have hS' : RngE7 w gr oR k fr tto ep (some ⟨gr, oR, none⟩) n c0 q (.slice i0' n0 d0) (.slice i1' n1 d1) (.slice i2' n2 d2) w4 := ⟨HL4.out.2.2, HL4.out.1.1.1, ⟨(q4'.cell (p := ⟨gr, oR + k * 3, none⟩) hgr3).trans hS.2.2.1.1, (q4'.cell (p := ⟨gr, oR + k * 3 + 1, none⟩) hgr3).trans hS.2.2.1.2.1, (q4'.cell (p := ⟨gr, oR + k * 3 + 2, none⟩) hgr3).trans hS.2.2.1.2.2⟩, (LQ3.out.later q4').1⟩
        clear q4 q4' hst HFS HS
        go_wp2_with fail
        refine hK.out _ _ hS' (fun hS => ?_)
        clear hK K hS'
        refine wpAnyH_done (by kernel_rfl) ?_ _
        clear hS
        go_simp
        go_wp2
        go_roundw
        case rel => exact ⟨k + 1, by omega, by go_num, HS1, HL4⟩
        case measure => simp [intOf]; omega
    · obtain rfl : k = n := by omega
      have HSS : Hid (∀ i, i < k → (S i).nc ≤ 200 ∧ (S i).nl ≤ 200 ∧ (S i).nw ≤ 200) := fun i hi => by
        have h1 := scan_zero HS.out i hi
        unfold oneF at h1
        split at h1
        · rename_i q; exact absurd h1 q
        · rename_i q; exact (storeF_zero (Classical.not_not.1 q)).1
      have E : Hid (groupsF k F k S = if fullG k S then 2 else 0) := by unfold Hid; rw [HG.out, HS.out, if_neg (by decide)]
      clear HS HG hlt
      go_wp2_with fail
      refine (together_any k S V _ B _ HL.out.2.1.2 hn6 HSS.out).mono ?_
      rintro e w4 ⟨x0, y0, x1, y1, x2, y2, rfl, _, q4⟩
      obtain ⟨m0, hm0⟩ : ∃ x, (unionS k S).nc = x := ⟨_, rfl⟩
      obtain ⟨m1, hm1⟩ : ∃ x, (unionS k S).nl = x := ⟨_, rfl⟩
      obtain ⟨m2, hm2⟩ : ∃ x, (unionS k S).nw = x := ⟨_, rfl⟩
      rw [hm0, hm1, hm2]
      have HFU : Hid (fullG k S ↔ (200 < m0 ∨ 200 < m1 ∨ 200 < m2)) := by rw [← hm0, ← hm1, ← hm2]; exact Iff.rfl
      have B4 : Below w.heap.size w w4 := HL.out.2.2.trans (q4.mono HL.out.2.2.size)
      have B5 : Hid (Below w.heap.size w (w4.alloc (.cells #[.slice x0 m0 y0, .slice x1 m1 y1, .slice x2 m2 y2] 127)) ∧ Blk3 (w4.alloc (.cells #[.slice x0 m0 y0, .slice x1 m1 y1, .slice x2 m2 y2] 127)) w4.heap.size (.slice x0 m0 y0) (.slice x1 m1 y1) (.slice x2 m2 y2)) := ⟨B4.trans ((below_alloc _ _).mono B4.size), Blk3.new _ _ _ _ _⟩
      clear q4 hm0 hm1 hm2 B4 p0 p1 HSS
      obtain ⟨⟨z0, z1, z2⟩, _⟩ := B5.out.2
      by_cases r0 : 200 < m0
      · have d : decide ((200 : Int) < (m0 : Int)) = true := decide_eq_true (by omega)
        have E2 : Hid (groupsF k F k S = 2) := by unfold Hid; rw [E.out, if_pos (HFU.out.2 (Or.inl r0))]
        clear r0 HFU E
        go_wp2
        go_ret
        exact ⟨by rw [E2.out]; rfl, B5.out.1⟩
      have d0 : decide ((200 : Int) < (m0 : Int)) = false := decide_eq_false (by omega)
      by_cases r1 : 200 < m1
      · have d : decide ((200 : Int) < (m1 : Int)) = true := decide_eq_true (by omega)
        have E2 : Hid (groupsF k F k S = 2) := by unfold Hid; rw [E.out, if_pos (HFU.out.2 (Or.inr (Or.inl r1)))]
        clear r0 r1 HFU E
        go_wp2
        go_ret
        exact ⟨by rw [E2.out]; rfl, B5.out.1⟩
      have d1 : decide ((200 : Int) < (m1 : Int)) = false := decide_eq_false (by omega)
      by_cases r2 : 200 < m2
      · have d : decide ((200 : Int) < (m2 : Int)) = true := decide_eq_true (by omega)
        have E2 : Hid (groupsF k F k S = 2) := by unfold Hid; rw [E.out, if_pos (HFU.out.2 (Or.inr (Or.inr r2)))]
        clear r0 r1 r2 HFU E
        go_wp2
        go_ret
        exact ⟨by rw [E2.out]; rfl, B5.out.1⟩
      have d2 : decide ((200 : Int) < (m2 : Int)) = false := decide_eq_false (by omega)
      have E2 : Hid (groupsF k F k S = 0) := by unfold Hid; rw [E.out, if_neg (fun q => by have := HFU.out.1 q; omega)]
      clear r0 r1 r2 HFU E
      go_wp2
      go_ret
      exact ⟨by rw [E2.out]; rfl, B5.out.1⟩
end

section
open Go.RowKit
section
end

section
open Go.RowKit
end
end
end Go.Proofs.YtpfmifpjmcmlaaaGreat

namespace Go.Proofs.YtpfmifpjmcmlaaaGreat
open Go.RowKit

set_option maxRecDepth 100000 in
set_option maxHeartbeats 8000000 in
theorem implWorldFault_any (nw nx bd : Int) (nr : Nat) (F : Nat → Int) (n : Nat) (S : Nat → Sto) (V : Nat → Nat → Value) (vr vs : Value) (nt : Nat) (T : Nat → Tx) (X : Nat → Value) (vt : Value) (B : Nat) (w : World) (h : Grs w B nr F n S V vr vs) (hx : Txs w B nt T X vt) (hr : nr ≤ 9223372036854775807) (hn : n ≤ 9223372036854775807) (ht : nt ≤ 9223372036854775807) :
    Calls Tryz.prog 11 #[.agg #[.int .i64 nw, .int .i64 nx, .int .i64 bd, vr, vs, vt]] w fun e w' => e = .returned (.int .i64 (worldF nw nx bd nr F n S nt T)) ∧ Below w.heap.size w w' := by
  obtain ⟨a0, c0, a1, c1, rfl, rfl⟩ := h.form
  obtain ⟨a2, c2, rfl⟩ := hx.form
  have H : Hid (LiesD (w.alloc (.cells #[.int .i64 nw, .int .i64 nx, .int .i64 bd, .slice a0 nr c0, .slice a1 n c1, .slice a2 nt c2] 40)) w.heap.size nw nx bd nr F n S V (.slice a0 nr c0) (.slice a1 n c1) nt T X (.slice a2 nt c2) ∧ Below w.heap.size w (w.alloc (.cells #[.int .i64 nw, .int .i64 nx, .int .i64 bd, .slice a0 nr c0, .slice a1 n c1, .slice a2 nt c2] 40))) := ⟨⟨Blk6.new w _ _ _ _ _ _ _, (h.mono (Nat.zero_le _)).alloc _, (hx.mono (Nat.zero_le _)).alloc _⟩, below_alloc _ _⟩
  clear h hx
  by_cases h0 : 0 ≤ nw ∧ nw ≤ 100000
  case neg =>
    have D0 : Hid (decide (0 ≤ nw ∧ nw ≤ 100000) = false) := decide_eq_false h0
    have E : Hid (worldF nw nx bd nr F n S nt T = 3) := worldF_now h0
    clear h0
    go_enter Tryz.func11, Tryz.ntmps11
    go_wp2_with fail
    refine (isNowW_is nw false D0.out _).mono ?_
    rintro e w1 ⟨rfl, hw1⟩
    obtain rfl := hw1.symm
    go_wp2
    go_ret
    exact ⟨by rw [E.out]; rfl, H.out.2⟩
  have D0 : Hid (decide (0 ≤ nw ∧ nw ≤ 100000) = true) := decide_eq_true h0
  have H0 : Hid (0 ≤ nw ∧ nw ≤ 100000) := h0
  clear h0
  obtain ⟨f1, hf1⟩ : ∃ f, oFault nx bd = f := ⟨_, rfl⟩
  have HF1 : Hid (oFault nx bd = f1) := hf1
  clear hf1
  go_enter Tryz.func11, Tryz.ntmps11
  go_wp2_with fail
  refine (isNowW_is nw true D0.out _).mono ?_
  rintro e w1 ⟨rfl, hw1⟩
  obtain rfl := hw1.symm
  go_wp2_with fail
  refine (implOracleFault_any nx bd _).mono ?_
  rw [HF1.out]
  rintro e w2 ⟨rfl, hw2⟩
  have H2 : Hid (LiesD w2 w.heap.size nw nx bd nr F n S V (.slice a0 nr c0) (.slice a1 n c1) nt T X (.slice a2 nt c2) ∧ Below w.heap.size w w2) := by
    rw [hw2]
    exact ⟨H.out.1.later (below_alloc _ _), H.out.2.alloc (by have := H.out.2.size; omega) _⟩
  clear hw2 H
  by_cases hz1 : f1 = 0
  case neg =>
    have d : (f1 != 0) = true := bne_iff_ne.2 hz1
    have E : Hid (worldF nw nx bd nr F n S nt T = f1) := (worldF_oracle H0.out (by rw [HF1.out]; exact hz1)).trans HF1.out
    clear hz1
    go_wp2
    go_ret
    exact ⟨by rw [E.out]; rfl, H2.out.2⟩
  subst hz1
  obtain ⟨f2, hf2⟩ : ∃ f, groupsF nr F n S = f := ⟨_, rfl⟩
  have HF2 : Hid (groupsF nr F n S = f2) := hf2
  clear hf2
  obtain ⟨⟨⟨p0, p1, p2, p3, p4, p5⟩, _⟩, _⟩ := H2.out.1
  go_wp2_with fail
  refine (implGroupsFault_any nr F n S V _ _ 0 _ H2.out.1.2.1 hr hn).mono ?_
  rw [HF2.out]
  rintro e w3 ⟨rfl, q3⟩
  have H3 : Hid (LiesD w3 w.heap.size nw nx bd nr F n S V (.slice a0 nr c0) (.slice a1 n c1) nt T X (.slice a2 nt c2) ∧ Below w.heap.size w w3) := ⟨H2.out.1.later q3, H2.out.2.trans (q3.mono H2.out.2.size)⟩
  clear q3 H2 p0 p1 p2 p3 p4 p5
  by_cases hz2 : f2 = 0
  case neg =>
    have d : (f2 != 0) = true := bne_iff_ne.2 hz2
    have E : Hid (worldF nw nx bd nr F n S nt T = f2) := (worldF_groups H0.out HF1.out (by rw [HF2.out]; exact hz2)).trans HF2.out
    clear hz2
    go_wp2
    go_ret
    exact ⟨by rw [E.out]; rfl, H3.out.2⟩
  subst hz2
  obtain ⟨⟨⟨p0, p1, p2, p3, p4, p5⟩, _⟩, _⟩ := H3.out.1
  by_cases h16 : 16 < nt
  · have d : decide ((nt : Int) > 16) = true := decide_eq_true (by omega)
    have E : Hid (worldF nw nx bd nr F n S nt T = 2) := worldF_many H0.out HF1.out HF2.out h16
    go_wp2
    go_ret
    exact ⟨by rw [E.out]; rfl, H3.out.2⟩
  have d : decide ((nt : Int) > 16) = false := decide_eq_false (by omega)
  have EW : Hid (worldF nw nx bd nr F n S nt T = scan (placeF nx T) nt) := worldF_txns H0.out HF1.out HF2.out h16
  have hn16 : nt ≤ 16 := by omega
  clear h16 HF1 HF2 H0 ht
  go_wp2
  clear p0 p1 p2 p3 p4 p5 d
  go_loopw [30] (fun i wr => ∃ k : Nat, k ≤ nt ∧ i = .int .i64 k ∧ Hid (scan (placeF nx T) k = 0) ∧ Hid (LiesD wr w.heap.size nw nx bd nr F n S V (.slice a0 nr c0) (.slice a1 n c1) nt T X (.slice a2 nt c2) ∧ Below w.heap.size w wr)) (fun i _ => nt - (intOf i).toNat)
  case atStart => exact ⟨0, Nat.zero_le _, rfl, rfl, H3⟩
  case round =>
    clear H3
    obtain ⟨k, hk, rfl, HS, HB⟩ := hrel
    by_cases hlt : k < nt
    case neg =>
      obtain rfl : k = nt := by omega
      have E : Hid (worldF nw nx bd nr F n S k T = 0) := EW.out.trans HS.out
      go_wp2
      go_ret
      exact ⟨by rw [E.out]; rfl, HB.out.2⟩
    obtain ⟨⟨⟨p0, p1, p2, p3, p4, p5⟩, _⟩, _⟩ := HB.out.1
    obtain ⟨f, hf⟩ : ∃ f, placeF nx T k = f := ⟨_, rfl⟩
    have HF : Hid (placeF nx T k = f) := hf
    clear hf
    go_wp2_with fail
    refine (implPlace_any nw nx bd _ _ nt T X _ k _ HB.out.1.2.2 hlt hn16).mono ?_
    rw [HF.out]
    rintro e w4 ⟨rfl, q4⟩
    have H4 : Hid (LiesD w4 w.heap.size nw nx bd nr F n S V (.slice a0 nr c0) (.slice a1 n c1) nt T X (.slice a2 nt c2) ∧ Below w.heap.size w w4) := ⟨HB.out.1.later q4, HB.out.2.trans (q4.mono HB.out.2.size)⟩
    clear q4 HB p0 p1 p2 p3 p4 p5
    by_cases hz : f = 0
    case neg =>
      have d' : (f != 0) = true := bne_iff_ne.2 hz
      have E : Hid (worldF nw nx bd nr F n S nt T = f) := EW.out.trans ((scan_stop HS.out (by rw [HF.out]; exact hz) hlt).trans HF.out)
      clear hz HF HS EW
      go_wp2
      go_ret
      exact ⟨by rw [E.out]; rfl, H4.out.2⟩
    subst hz
    have HS1 : Hid (scan (placeF nx T) (k + 1) = 0) := scan_go HS.out HF.out
    clear HS HF
    go_wp2
    go_roundw
    case rel => exact ⟨k + 1, by omega, by go_num, HS1, H4⟩
    case measure => simp [intOf]; omega
end Go.Proofs.YtpfmifpjmcmlaaaGreat

namespace Go.Proofs.YtpfmifpjmcmlaaaGreat
open Go.RowKit

/-- What the law's last region stands on: its argument, and the copy that the program was given. -/
def TwoD (w : World) (nw nx bd : Int) (vr vs vt : Value) (q : Nat) (ur us ut : Value) (x : World) : Prop := Below w.heap.size w x ∧ Blk6 x w.heap.size (.int .i64 nw) (.int .i64 nx) (.int .i64 bd) vr vs vt ∧ Blk6 x q (.int .i64 nw) (.int .i64 nx) (.int .i64 bd) ur us ut
theorem TwoD.later {w x x' : World} {nw nx bd : Int} {vr vs vt ur us ut : Value} {q : Nat} (h : TwoD w nw nx bd vr vs vt q ur us ut x) (hb : Below x.heap.size x x') : TwoD w nw nx bd vr vs vt q ur us ut x' := ⟨h.1.trans (hb.mono h.1.size), h.2.1.later hb, h.2.2.later hb⟩
theorem NewWd.rows {w w' : World} {nw nx bd : Int} {nr : Nat} {F : Nat → Int} {n : Nat} {S : Nat → Sto} {nt : Nat} {T : Nat → Tx} {e : Ending} (h : NewWd w nw nx bd nr F n S nt T e w') :
    ∃ ra rc g U gt Y, e = .returned (.agg #[.int .i64 nw, .int .i64 nx, .int .i64 bd, .slice ra nr rc, .slice (some ⟨g, 0, none⟩) n n, .slice (some ⟨gt, 0, none⟩) nt nt]) ∧ Grs w' 0 nr F n S U (.slice ra nr rc) (.slice (some ⟨g, 0, none⟩) n n) ∧ Txs w' 0 nt T Y (.slice (some ⟨gt, 0, none⟩) nt nt) ∧ Below w.heap.size w w' := by
  obtain ⟨ra, rc, g, U, z, gt, Y, zt, rfl, hF, ⟨_, hgt, hfil, hfin, _⟩, hb⟩ := h
  refine ⟨ra, rc, g, U, gt, Y, rfl, hF.grs.mono (Nat.zero_le _), ⟨⟨_, _, rfl, fun _ => ⟨gt, 0, rfl, Nat.zero_le _, hgt, fun i hi j hj => ?_⟩⟩, fun i hi => ⟨(hfin i hi).1.1.mono (Nat.zero_le _), (hfin i hi).1.2.2⟩⟩, hb⟩
  rw [Nat.zero_add]
  exact hfil.cell (Nat.le_refl _) hi hj
set_option maxRecDepth 100000 in
set_option maxHeartbeats 8000000 in
theorem worldFault_walk (nw nx bd : Int) (nr : Nat) (F : Nat → Int) (n : Nat) (S : Nat → Sto) (V : Nat → Nat → Value) (vr vs : Value) (nt : Nat) (T : Nat → Tx) (X : Nat → Value) (vt : Value) (w : World) (h : Grs w 0 nr F n S V vr vs) (hx : Txs w 0 nt T X vt) (hr : nr ≤ 9223372036854775807) (hn : n ≤ 9223372036854775807) (hs : ∀ i, i < n → BigS (S i)) (hnt : nt ≤ 9223372036854775807) (hm : ∀ i, i < nt → (T i).m ≤ 9223372036854775807) :
    Calls Tryz.prog 3 #[.agg #[.int .i64 nw, .int .i64 nx, .int .i64 bd, vr, vs, vt]] w fun e w' => e = .returned (.bool true) ∧ Below w.heap.size w w' := by
  obtain ⟨a0, c0, a1, c1, rfl, rfl⟩ := h.form
  obtain ⟨a2, c2, rfl⟩ := hx.form
  have HG : Hid (Grs w 0 nr F n S V (.slice a0 nr c0) (.slice a1 n c1) ∧ Txs w 0 nt T X (.slice a2 nt c2)) := ⟨h, hx⟩
  have HN : Hid ((∀ i, i < n → BigS (S i)) ∧ ∀ i, i < nt → (T i).m ≤ 9223372036854775807) := ⟨hs, hm⟩
  have H : Hid (Blk6 (w.alloc (.cells #[.int .i64 nw, .int .i64 nx, .int .i64 bd, .slice a0 nr c0, .slice a1 n c1, .slice a2 nt c2] 30)) w.heap.size (.int .i64 nw) (.int .i64 nx) (.int .i64 bd) (.slice a0 nr c0) (.slice a1 n c1) (.slice a2 nt c2) ∧ Below w.heap.size w (w.alloc (.cells #[.int .i64 nw, .int .i64 nx, .int .i64 bd, .slice a0 nr c0, .slice a1 n c1, .slice a2 nt c2] 30))) := ⟨Blk6.new w _ _ _ _ _ _ _, below_alloc _ _⟩
  clear h hx hs hm
  obtain ⟨f, HF⟩ : ∃ f, Hid (worldF nw nx bd nr F n S nt T = f) := ⟨_, rfl⟩
  go_enter Tryz.func3, Tryz.ntmps3
  go_wp2_with fail
  refine (szWorld_any nw nx bd nr F n S V _ _ nt T X _ 0 _ (HG.out.1.alloc _) (HG.out.2.alloc _) hr hn HN.out.1 hnt HN.out.2).mono ?_
  rintro e w1 ⟨r, rfl, hA, q1⟩
  have H1 : Hid (Blk6 w1 w.heap.size (.int .i64 nw) (.int .i64 nx) (.int .i64 bd) (.slice a0 nr c0) (.slice a1 n c1) (.slice a2 nt c2) ∧ Below w.heap.size w w1) := ⟨H.out.1.later q1, H.out.2.trans (q1.mono H.out.2.size)⟩
  clear q1 H
  rcases hA with rfl | ⟨h1, ⟨h2, h3, _, h4⟩, h5, _, h6⟩
  · go_wp2
    go_ret
    exact ⟨rfl, H1.out.2⟩
  have HB : Hid ((nr ≤ 1048576 ∧ n ≤ 1048576 ∧ ∀ i, i < n → SmallS (S i)) ∧ nt ≤ 1048576 ∧ ∀ i, i < nt → (T i).m ≤ 1048576) := ⟨⟨h2, h3, h4⟩, h5, h6⟩
  have dr : decide (r < 0) = false := decide_eq_false (by omega)
  clear h1 h2 h3 h4 h5 h6 hr hn HN hnt
  obtain ⟨⟨p0, p1, p2, p3, p4, p5⟩, _⟩ := H1.out.1
  go_wp2_with fail
  refine (toWorld_any nw nx bd nr F n S V _ _ nt T X _ 0 _ (HG.out.1.later H1.out.2) (HG.out.2.later H1.out.2) HB.out.1 HB.out.2).mono ?_
  intro e w2 hN2
  obtain ⟨ra, rc, g, U, gt, Y, rfl, g2, t2, q2⟩ := hN2.rows
  have H2 : Hid (Blk6 w2 w.heap.size (.int .i64 nw) (.int .i64 nx) (.int .i64 bd) (.slice a0 nr c0) (.slice a1 n c1) (.slice a2 nt c2) ∧ Below w.heap.size w w2) := ⟨H1.out.1.later q2, H1.out.2.trans (q2.mono H1.out.2.size)⟩
  have G2 : Hid (Grs w2 0 nr F n S U (.slice ra nr rc) (.slice (some ⟨g, 0, none⟩) n n) ∧ Txs w2 0 nt T Y (.slice (some ⟨gt, 0, none⟩) nt nt)) := ⟨g2, t2⟩
  clear q2 hN2 g2 t2 H1 p0 p1 p2 p3 p4 p5
  go_wp2_with fail
  refine (specWorldFault_any nw nx bd nr F n S U _ _ nt T Y _ 0 _ G2.out.1 G2.out.2 (by have := HB.out.1.1; omega) (by have := HB.out.1.2.1; omega) (by have := HB.out.2.1; omega) (fun i hi => by have := HB.out.2.2 i hi; omega)).mono ?_
  rw [HF.out]
  rintro e w3 ⟨rfl, q3⟩
  have H3 : Hid (Blk6 w3 w.heap.size (.int .i64 nw) (.int .i64 nx) (.int .i64 bd) (.slice a0 nr c0) (.slice a1 n c1) (.slice a2 nt c2) ∧ Below w.heap.size w w3) := ⟨H2.out.1.later q3, H2.out.2.trans (q3.mono H2.out.2.size)⟩
  clear q3 H2 G2
  obtain ⟨⟨p0, p1, p2, p3, p4, p5⟩, _⟩ := H3.out.1
  go_wp2_with fail
  refine (toWorld_any nw nx bd nr F n S V _ _ nt T X _ 0 _ (HG.out.1.later H3.out.2) (HG.out.2.later H3.out.2) HB.out.1 HB.out.2).mono ?_
  intro e w4 hN4
  obtain ⟨ra', rc', g', U', gt', Y', rfl, g4, t4, q4⟩ := hN4.rows
  have G4 : Hid (Grs (w4.alloc (.cells #[.int .i64 nw, .int .i64 nx, .int .i64 bd, .slice ra' nr rc', .slice (some ⟨g', 0, none⟩) n n, .slice (some ⟨gt', 0, none⟩) nt nt] 40)) 0 nr F n S U' (.slice ra' nr rc') (.slice (some ⟨g', 0, none⟩) n n) ∧ Txs (w4.alloc (.cells #[.int .i64 nw, .int .i64 nx, .int .i64 bd, .slice ra' nr rc', .slice (some ⟨g', 0, none⟩) n n, .slice (some ⟨gt', 0, none⟩) nt nt] 40)) 0 nt T Y' (.slice (some ⟨gt', 0, none⟩) nt nt)) := ⟨g4.alloc _, t4.alloc _⟩
  have T4 : Hid (TwoD w nw nx bd (.slice a0 nr c0) (.slice a1 n c1) (.slice a2 nt c2) w4.heap.size (.slice ra' nr rc') (.slice (some ⟨g', 0, none⟩) n n) (.slice (some ⟨gt', 0, none⟩) nt nt) (w4.alloc (.cells #[.int .i64 nw, .int .i64 nx, .int .i64 bd, .slice ra' nr rc', .slice (some ⟨g', 0, none⟩) n n, .slice (some ⟨gt', 0, none⟩) nt nt] 40))) := ⟨(H3.out.2.trans (q4.mono H3.out.2.size)).alloc (Nat.le_trans H3.out.2.size q4.size) _, (H3.out.1.later q4).alloc _, Blk6.new _ _ _ _ _ _ _ _⟩
  clear q4 hN4 g4 t4 H3 p0 p1 p2 p3 p4 p5
  go_wp2_with fail
  generalize w4.alloc (.cells #[.int .i64 nw, .int .i64 nx, .int .i64 bd, .slice ra' nr rc', .slice (some ⟨g', 0, none⟩) n n, .slice (some ⟨gt', 0, none⟩) nt nt] 40) = w5 at G4 T4 ⊢
  refine (implWorldFault_any nw nx bd nr F n S U' _ _ nt T Y' _ 0 _ G4.out.1 G4.out.2 (by have := HB.out.1.1; omega) (by have := HB.out.1.2.1; omega) (by have := HB.out.2.1; omega)).mono ?_
  rw [HF.out]
  rintro e w6 ⟨rfl, q6⟩
  have G6 : Hid (Grs w6 0 nr F n S U' (.slice ra' nr rc') (.slice (some ⟨g', 0, none⟩) n n) ∧ Txs w6 0 nt T Y' (.slice (some ⟨gt', 0, none⟩) nt nt)) := ⟨G4.out.1.later q6, G4.out.2.later q6⟩
  have T6 : Hid (TwoD w nw nx bd (.slice a0 nr c0) (.slice a1 n c1) (.slice a2 nt c2) w4.heap.size (.slice ra' nr rc') (.slice (some ⟨g', 0, none⟩) n n) (.slice (some ⟨gt', 0, none⟩) nt nt) w6) := T4.out.later q6
  clear q6 G4 T4
  go_wp2_with fail
  refine wp_region_held_drew (S := TwoD w nw nx bd (.slice a0 nr c0) (.slice a1 n c1) (.slice a2 nt c2) w4.heap.size (.slice ra' nr rc') (.slice (some ⟨g', 0, none⟩) n n) (.slice (some ⟨gt', 0, none⟩) nt nt)) (by kernel_rfl) (T6.out.later (Below.drew (Below.refl _ _))) (fun hS => ?_)
  clear T6
  refine tkH 0 ?_ hS (fun wx hx => ?_) ?_; rotate_left
  · obtain ⟨_, ⟨⟨hx0, hx1, hx2, hx3, hx4, hx5⟩, _⟩, ⟨⟨hy0, hy1, hy2, hy3, hy4, hy5⟩, _⟩⟩ := hx; go_simp; try with_reducible rfl
  refine tkH 1 ?_ hS (fun wx hx => ?_) ?_; rotate_left
  · obtain ⟨_, ⟨⟨hx0, hx1, hx2, hx3, hx4, hx5⟩, _⟩, ⟨⟨hy0, hy1, hy2, hy3, hy4, hy5⟩, _⟩⟩ := hx; go_simp; try with_reducible rfl
  refine rdH 2 (fun K hK => ?_)
  go_simp
  go_wp2_with fail
  refine (toWorld_any nw nx bd nr F n S V _ _ nt T X _ 0 _ (HG.out.1.later hS.1) (HG.out.2.later hS.1) HB.out.1 HB.out.2).mono ?_
  intro e w7 hN7
  obtain ⟨rb, rd, g2, U2, gt2, Y2, rfl, g7, t7, q7⟩ := hN7.rows
  have q7' : Below w6.heap.size w6 w7 := ⟨q7.os, q7.tape, q7.output, q7.size, q7.block⟩
  have G7 : Hid ((Grs w7 0 nr F n S U' (.slice ra' nr rc') (.slice (some ⟨g', 0, none⟩) n n) ∧ Txs w7 0 nt T Y' (.slice (some ⟨gt', 0, none⟩) nt nt)) ∧ Grs w7 0 nr F n S U2 (.slice rb nr rd) (.slice (some ⟨g2, 0, none⟩) n n) ∧ Txs w7 0 nt T Y2 (.slice (some ⟨gt2, 0, none⟩) nt nt)) := ⟨⟨G6.out.1.later q7', G6.out.2.later q7'⟩, g7, t7⟩
  have hS' := hS.later q7
  clear q7 q7' hN7 g7 t7 G6
  go_wp2_with fail
  refine hK.out _ _ hS' (fun hS => ?_)
  clear hK K hS'
  refine rdH 3 (fun K hK => ?_)
  go_simp
  go_wp2_with fail
  refine (eqWorldT_same nw nx bd nr F n S U' U2 _ _ _ _ _ _ _ _ nt T Y' Y2 _ _ _ _ 0 0 _ G7.out.1.1 G7.out.2.1 G7.out.1.2 G7.out.2.2 HB.out.1 HB.out.2).mono ?_
  rintro e w8 ⟨rfl, q8⟩
  have hS' := hS.later q8
  clear q8 G7
  go_wp2_with fail
  refine hK.out _ _ hS' (fun hS => ?_)
  clear hK K hS'
  refine tkH 4 ?_ hS (fun wx hx => ?_) ?_; rotate_left
  · obtain ⟨_, ⟨⟨hx0, hx1, hx2, hx3, hx4, hx5⟩, _⟩, ⟨⟨hy0, hy1, hy2, hy3, hy4, hy5⟩, _⟩⟩ := hx; go_simp; try with_reducible rfl
  refine wpAnyH_done (by kernel_rfl) ?_ _
  have BB : Hid (Below w.heap.size w w8) := hS.1
  clear hS
  go_simp
  go_wp2
  go_ret
  exact ⟨rfl, BB.out⟩
end Go.Proofs.YtpfmifpjmcmlaaaGreat

