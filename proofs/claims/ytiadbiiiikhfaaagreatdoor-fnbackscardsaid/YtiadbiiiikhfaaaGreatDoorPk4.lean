/-
 Own text, merged of ColsX, ColsY, StorB, StorD, RegQ, CopyA.
-/
import Derived.Test.YtiadbiiiikhfaaaGreatDoorPk3
namespace Go.Proofs.YtiadbiiiikhfaaaGreatDoor
section
open Go.RowKit Go.Maps
theorem all_next {p : Nat → Prop} {k : Nat} (h : ∀ j, j < k → p j) (q : p k) : ∀ j, j < k + 1 → p j := fun j hj => by
 rcases Nat.lt_or_ge j k with e | e
 ·exact h j e
 ·obtain rfl : j = k := by omega
  exact q
/-- The places of the puts among the first k structs (m numbers each; number kd the kind, number st the start). -/
def selP (F : Nat → Int) (m kd st : Nat) : Nat → List (Int × Int)
 | 0 => []
 | k + 1 => selP F m kd st k ++ (if F (k * m + kd) = 1 then [(F (k * m), F (k * m + st))] else [])
theorem selP_yes {F : Nat → Int} {m kd st k : Nat} (h : F (k * m + kd) = 1) : selP F m kd st (k + 1) = selP F m kd st k ++ [(F (k * m), F (k * m + st))] := by rw [selP, if_pos h]
theorem selP_no {F : Nat → Int} {m kd st k : Nat} (h : F (k * m + kd) ≠ 1) : selP F m kd st (k + 1) = selP F m kd st k := by rw [selP, if_neg h, List.append_nil]
theorem selP_le (F : Nat → Int) (m kd st : Nat) : ∀ k, (selP F m kd st k).length ≤ k
 | 0 => Nat.le_refl _
 | k + 1 => by
  have ih := selP_le F m kd st k
  by_cases h : F (k * m + kd) = 1
  ·rw [selP_yes h, List.length_append, List.length_singleton]; omega
  ·rw [selP_no h]; omega
theorem selP_mem {F : Nat → Int} {m kd st : Nat} (x y : Int) : ∀ k, (x, y) ∈ selP F m kd st k ↔ ∃ i, i < k ∧ F (i * m + kd) = 1 ∧ F (i * m) = x ∧ F (i * m + st) = y
 | 0 => by simp [selP]
 | k + 1 => by
  have ih := selP_mem (F := F) (m := m) (kd := kd) (st := st) x y k
  by_cases h : F (k * m + kd) = 1
  ·rw [selP_yes h, List.mem_append, ih, List.mem_singleton, Prod.mk.injEq]
   constructor
   ·rintro (⟨i, hi, r⟩ | ⟨rfl, rfl⟩)
    ·exact ⟨i, by omega, r⟩
    ·exact ⟨k, by omega, h, rfl, rfl⟩
   ·rintro ⟨i, hi, r, rx, ry⟩
    by_cases e : i = k
    ·subst e; exact Or.inr ⟨rx.symm, ry.symm⟩
    ·exact Or.inl ⟨i, by omega, r, rx, ry⟩
  ·rw [selP_no h, ih]
   constructor
   ·rintro ⟨i, hi, r⟩; exact ⟨i, by omega, r⟩
   ·rintro ⟨i, hi, r⟩
    by_cases e : i = k
    ·subst e; exact absurd r.1 h
    ·exact ⟨i, by omega, r⟩
/-- The numbers of a list of pairs. -/
def flat : List (Int × Int) → List Int
 | [] => []
 | p :: t => p.1 :: p.2 :: flat t
theorem flat_append (a b : List (Int × Int)) : flat (a ++ b) = flat a ++ flat b := by
 induction a with
 | nil => rfl
 | cons p t ih => simp [flat, ih]
theorem flat_length (a : List (Int × Int)) : (flat a).length = a.length * 2 := by
 induction a with
 | nil => rfl
 | cons p t ih => simp [flat, ih]; omega
theorem flat_at (a : List (Int × Int)) (i : Nat) (hi : i < a.length) : (flat a).getD (i * 2) 0 = (a[i]'hi).1 ∧ (flat a).getD (i * 2 + 1) 0 = (a[i]'hi).2 := by
 induction a generalizing i with
 | nil => simp at hi
 | cons p t ih =>
  match i, hi with
  | 0, _ => exact ⟨rfl, rfl⟩
  | i + 1, hi =>
   have := ih i (by simpa using hi)
   rw [show (i + 1) * 2 = i * 2 + 1 + 1 by omega]
   exact this
/-- A row of places that a call has made since w. -/
def Plc (w : World) (v : Value) (P : List (Int × Int)) (x : World) : Prop := OwnM x w.heap.size 105 2 v P.length (flat P) ∧ Below w.heap.size w x
theorem Plc.later {w x x' : World} {v : Value} {P : List (Int × Int)} (h : Plc w v P x) (hb : Below x.heap.size x x') : Plc w v P x' := ⟨h.1.later hb, h.2.trans (hb.mono h.2.size)⟩
theorem Plc.form {w x : World} {v : Value} {P : List (Int × Int)} (h : Plc w v P x) : ∃ ao cp, v = .slice ao P.length cp := h.1.form
theorem Plc.step {w x x' : World} {v v' : Value} {P : List (Int × Int)} {a b : Int} (h : Plc w v P x) (ho : x'.ownsRow w.heap.size 105 2 v' (P.length + 1) ((flat P).map (Value.int .i64) ++ [.int .i64 a, .int .i64 b])) (hg : x.grownBy x' v.ownBlock) : Plc w v' (P ++ [(a, b)]) x' := by
 refine ⟨?_, below_grownBy h.2 h.2.size (fun bb hbb => (h.1.block bb hbb).1) hg⟩
 unfold OwnM
 rw [flat_append, List.map_append, List.length_append]
 exact ho
theorem Plc.row {w x : World} {v : Value} {P : List (Int × Int)} (h : Plc w v P x) : Row x w.heap.size 2 P.length (fun p => (flat P).getD p 0) v := (h.1.own (flat_length P)).row.1
theorem infoz_place : (Tryz.prog.info? 105).map (fun i => (i.zero, i.size, i.bytes)) = some (some (.agg #[.int .i64 0, .int .i64 0]), 2, 16) := by kernel_rfl
def putP (nl : Nat) (l : Nat → Int) (nw : Nat) (k : Nat → Int) : List (Int × Int) := selP l 5 2 1 nl ++ selP k 4 3 2 nw
set_option maxRecDepth 100000 in
set_option maxHeartbeats 4000000 in
theorem putPlaces_any (nl : Nat) (l : Nat → Int) (nw : Nat) (kk : Nat → Int) (B : Nat) (v1 v2 : Value) (w : World) (h1 : Row w B 5 nl l v1) (h2 : Row w B 4 nw kk v2) (hl : nl ≤ 200) (hk : nw ≤ 200) :
  Calls Tryz.prog 95 #[v1, v2] w fun e w' => ∃ v, e = .returned v ∧ Plc w v (putP nl l nw kk) w' := by
 unfold putP
 obtain ⟨a1, c1, rfl⟩ := h1.form
 obtain ⟨a2, c2, rfl⟩ := h2.form
 have H1 : Hid (Row w B 5 nl l (.slice a1 nl c1)) := h1
 have H2 : Hid (Row w B 4 nw kk (.slice a2 nw c2)) := h2
 obtain ⟨i0, hi, hz0, hz1, hz2⟩ := info_parts infoz_place
 have HS0 : Hid (Plc w (.slice none 0 0) (selP l 5 2 1 0) w) := ⟨OwnM.nil _ _ _ _, Below.refl _ _⟩
 clear h1 h2
 go_enter Tryz.func95, Tryz.ntmps95
 go_wp2
 go_loopw [5, 12] (fun v i wr => ∃ (k : Nat), k ≤ nl ∧ i = .int .i64 k ∧ Hid (Plc w v (selP l 5 2 1 k) wr)) (fun _ i _ => nl - (intOf i).toNat)
 case atStart => exact ⟨0, Nat.zero_le _, rfl, HS0⟩
 case round =>
  clear HS0
  obtain ⟨k, hk, rfl, HS⟩ := hrel
  obtain ⟨ao, cp, rfl⟩ := HS.out.form
  by_cases hlt : k < nl
  case neg =>
   obtain rfl : nl = k := by omega
   have HS1 : Hid (Plc w (.slice ao (selP l 5 2 1 nl).length cp) (selP l 5 2 1 nl ++ selP kk 4 3 2 0) wr) := by
    unfold Hid
    rw [show selP kk 4 3 2 0 = [] from rfl, List.append_nil]
    exact HS.out
   clear HS
   go_wp2
   go_loopw [5, 30] (fun v i wr => ∃ (k : Nat), k ≤ nw ∧ i = .int .i64 k ∧ Hid (Plc w v (selP l 5 2 1 nl ++ selP kk 4 3 2 k) wr)) (fun _ i _ => nw - (intOf i).toNat)
   case atStart => exact ⟨0, Nat.zero_le _, rfl, HS1⟩
   case round =>
    clear HS1
    obtain ⟨k, hk, rfl, HS⟩ := hrel
    obtain ⟨ao, cp, rfl⟩ := HS.out.form
    by_cases hlt : k < nw
    case neg =>
     obtain rfl : nw = k := by omega
     go_wp2
     go_ret
     exact ⟨_, rfl, HS.out⟩
    obtain ⟨g, o, rfl, _, hg, x0, x1, x2, x3⟩ := (H2.out.later HS.out.2).at4 hlt
    obtain ⟨n0, N0⟩ : ∃ x, kk (k * 4) = x := ⟨_, rfl⟩
    rw [N0] at x0
    obtain ⟨n1, N1⟩ : ∃ x, kk (k * 4 + 1) = x := ⟨_, rfl⟩
    rw [N1] at x1
    obtain ⟨n2, N2⟩ : ∃ x, kk (k * 4 + 2) = x := ⟨_, rfl⟩
    rw [N2] at x2
    obtain ⟨n3, N3⟩ : ∃ x, kk (k * 4 + 3) = x := ⟨_, rfl⟩
    rw [N3] at x3
    have hP2 : Hid (Plc w (.slice ao (selP l 5 2 1 nl ++ selP kk 4 3 2 k).length cp) (selP l 5 2 1 nl ++ selP kk 4 3 2 k) (wr.alloc (.cells #[.int .i64 n0, .int .i64 n1, .int .i64 n2, .int .i64 n3] 55))) := HS.out.later (below_alloc _ _)
    by_cases hp : n3 = 1
    case neg =>
     have hd : (n3 == 1) = false := beq_eq_false_iff_ne.2 hp
     have E : Hid (Plc w (.slice ao (selP l 5 2 1 nl ++ selP kk 4 3 2 k).length cp) (selP l 5 2 1 nl ++ selP kk 4 3 2 (k + 1)) (wr.alloc (.cells #[.int .i64 n0, .int .i64 n1, .int .i64 n2, .int .i64 n3] 55))) := by
      unfold Hid
      rw [selP_no (by rw [N3]; exact hp)]
      exact hP2.out
     clear N0 N1 N2 N3 hp HS hP2
     go_wp2
     go_roundw
     case rel => exact ⟨k + 1, by omega, by go_num, E⟩
     case measure => simp [intOf]; omega
    subst hp
    have HL : Hid ((selP l 5 2 1 nl ++ selP kk 4 3 2 (k + 1)) = (selP l 5 2 1 nl ++ selP kk 4 3 2 k) ++ [(n0, n2)]) := by
     unfold Hid
     rw [selP_yes (by rw [N3])]
     rw [N0, N2, List.append_assoc]
    have hnle : (selP l 5 2 1 nl ++ selP kk 4 3 2 k).length ≤ 400 := by
     rw [List.length_append]
     have q0 := selP_le l 5 2 1 nl
     have q1 := selP_le kk 4 3 2 k
     omega
    obtain ⟨PP, hPP⟩ : ∃ PP, (selP l 5 2 1 nl ++ selP kk 4 3 2 k) = PP := ⟨_, rfl⟩
    rw [hPP] at HL hP2 hnle HS
    rw [hPP]
    have hP3 : Hid (Plc w (.slice ao PP.length cp) PP ((wr.alloc (.cells #[.int .i64 n0, .int .i64 n1, .int .i64 n2, .int .i64 1] 55)).alloc (.cells #[.int .i64 n0, .int .i64 n2] 105))) := hP2.out.later (below_alloc _ _)
    have hown := hP3.out.1
    have hsz : w.heap.size ≤ wr.heap.size := HS.out.2.size
    clear N0 N1 N2 N3 HS hP2 hPP
    go_wp2_with (at_builtin; refine wpList_append_own _ rfl _ _ 139 rfl w.heap.size 105 i0 (.agg #[.int .i64 0, .int .i64 0]) 2 16 Tryz.underlying139 hi hz0 hz1 hz2 rfl (by decide) _ _ _ rfl hown ⟨_, 0, none⟩ 1 1 [.int .i64 n0, .int .i64 n2] rfl rfl ?c1 ?c2 ?c3 ?c4 ?c5 ?_)
    case c1 =>
     intro q u hq
     match q, hq with
     | 0, hq => simp at hq; subst hq; simp [Addr.add]
     | 1, hq => simp at hq; subst hq; simp [Addr.add]
    case c2 =>
     intro u hu
     simp at hu
     rcases hu with rfl | rfl <;> rfl
    case c3 => unfold maxLen; omega
    case c4 => omega
    case c5 => simp; omega
    intro v' w2 ho hg2 _
    have E2 : Hid (Plc w v' (selP l 5 2 1 nl ++ selP kk 4 3 2 (k + 1)) w2) := by
     unfold Hid
     rw [HL.out]
     exact hP3.out.step ho hg2
    clear ho hg2 hown hP3 HL
    go_wp2
    go_roundw
    case rel => exact ⟨k + 1, by omega, by go_num, E2⟩
    case measure => simp [intOf]; omega
  obtain ⟨g, o, rfl, _, hg, x0, x1, x2, x3, x4⟩ := (H1.out.later HS.out.2).at5 hlt
  obtain ⟨n0, N0⟩ : ∃ x, l (k * 5) = x := ⟨_, rfl⟩
  rw [N0] at x0
  obtain ⟨n1, N1⟩ : ∃ x, l (k * 5 + 1) = x := ⟨_, rfl⟩
  rw [N1] at x1
  obtain ⟨n2, N2⟩ : ∃ x, l (k * 5 + 2) = x := ⟨_, rfl⟩
  rw [N2] at x2
  obtain ⟨n3, N3⟩ : ∃ x, l (k * 5 + 3) = x := ⟨_, rfl⟩
  rw [N3] at x3
  obtain ⟨n4, N4⟩ : ∃ x, l (k * 5 + 4) = x := ⟨_, rfl⟩
  rw [N4] at x4
  have hP2 : Hid (Plc w (.slice ao (selP l 5 2 1 k).length cp) (selP l 5 2 1 k) (wr.alloc (.cells #[.int .i64 n0, .int .i64 n1, .int .i64 n2, .int .i64 n3, .int .i64 n4] 40))) := HS.out.later (below_alloc _ _)
  by_cases hp : n2 = 1
  case neg =>
   have hd : (n2 == 1) = false := beq_eq_false_iff_ne.2 hp
   have E : Hid (Plc w (.slice ao (selP l 5 2 1 k).length cp) (selP l 5 2 1 (k + 1)) (wr.alloc (.cells #[.int .i64 n0, .int .i64 n1, .int .i64 n2, .int .i64 n3, .int .i64 n4] 40))) := by
    unfold Hid
    rw [selP_no (by rw [N2]; exact hp)]
    exact hP2.out
   clear N0 N1 N2 N3 N4 hp HS hP2
   go_wp2
   go_roundw
   case rel => exact ⟨k + 1, by omega, by go_num, E⟩
   case measure => simp [intOf]; omega
  subst hp
  have HL : Hid ((selP l 5 2 1 (k + 1)) = (selP l 5 2 1 k) ++ [(n0, n1)]) := by
   unfold Hid
   rw [selP_yes (by rw [N2])]
   rw [N0, N1]
  have hnle : (selP l 5 2 1 k).length ≤ 400 := by
   have q1 := selP_le l 5 2 1 k
   omega
  obtain ⟨PP, hPP⟩ : ∃ PP, (selP l 5 2 1 k) = PP := ⟨_, rfl⟩
  rw [hPP] at HL hP2 hnle HS
  rw [hPP]
  have hP3 : Hid (Plc w (.slice ao PP.length cp) PP ((wr.alloc (.cells #[.int .i64 n0, .int .i64 n1, .int .i64 1, .int .i64 n3, .int .i64 n4] 40)).alloc (.cells #[.int .i64 n0, .int .i64 n1] 105))) := hP2.out.later (below_alloc _ _)
  have hown := hP3.out.1
  have hsz : w.heap.size ≤ wr.heap.size := HS.out.2.size
  clear N0 N1 N2 N3 N4 HS hP2 hPP
  go_wp2_with (at_builtin; refine wpList_append_own _ rfl _ _ 139 rfl w.heap.size 105 i0 (.agg #[.int .i64 0, .int .i64 0]) 2 16 Tryz.underlying139 hi hz0 hz1 hz2 rfl (by decide) _ _ _ rfl hown ⟨_, 0, none⟩ 1 1 [.int .i64 n0, .int .i64 n1] rfl rfl ?c1 ?c2 ?c3 ?c4 ?c5 ?_)
  case c1 =>
   intro q u hq
   match q, hq with
   | 0, hq => simp at hq; subst hq; simp [Addr.add]
   | 1, hq => simp at hq; subst hq; simp [Addr.add]
  case c2 =>
   intro u hu
   simp at hu
   rcases hu with rfl | rfl <;> rfl
  case c3 => unfold maxLen; omega
  case c4 => omega
  case c5 => simp; omega
  intro v' w2 ho hg2 _
  have E2 : Hid (Plc w v' (selP l 5 2 1 (k + 1)) w2) := by
   unfold Hid
   rw [HL.out]
   exact hP3.out.step ho hg2
  clear ho hg2 hown hP3 HL
  go_wp2
  go_roundw
  case rel => exact ⟨k + 1, by omega, by go_num, E2⟩
  case measure => simp [intOf]; omega
theorem putP_needs {S : Sto} : (∀ x y, (x, y) ∈ putP S.nl S.l S.nw S.k → hasCell S S.nc x y) ↔ needs S := by
 unfold putP needs
 constructor
 ·intro h
  exact ⟨fun i hi q => h _ _ (List.mem_append.2 (Or.inr ((selP_mem _ _ _).2 ⟨i, hi, q, rfl, rfl⟩))), fun i hi q => h _ _ (List.mem_append.2 (Or.inl ((selP_mem _ _ _).2 ⟨i, hi, q, rfl, rfl⟩)))⟩
 ·intro h x y hm
  rcases List.mem_append.1 hm with q | q
  ·obtain ⟨i, hi, q1, rfl, rfl⟩ := (selP_mem _ _ _).1 q
   exact h.2 i hi q1
  ·obtain ⟨i, hi, q1, rfl, rfl⟩ := (selP_mem _ _ _).1 q
   exact h.1 i hi q1
theorem putP_wf {nl : Nat} {l : Nat → Int} {nw : Nat} {k : Nat → Int} (z1 : ∀ i, i < nl → lockF l i = 0) (z2 : ∀ i, i < nw → writeF k i = 0) {x y : Int} (h : (x, y) ∈ putP nl l nw k) : Wf x ∧ Wf y := by
 rcases List.mem_append.1 h with q | q
 ·obtain ⟨i, hi, q1, rfl, rfl⟩ := (selP_mem _ _ _).1 q
  have e := lockF_zero (z1 i hi)
  have f := faultOf_zero e.1
  exact ⟨wf_small f.1 (by omega), wf_small (by omega) e.2.2⟩
 ·obtain ⟨i, hi, q1, rfl, rfl⟩ := (selP_mem _ _ _).1 q
  have e := writeF_zero (z2 i hi)
  have f := faultOf_zero e.1
  exact ⟨wf_small f.1 (by omega), wf_small (by omega) e.2.2.2.2.1⟩
set_option maxRecDepth 100000 in
set_option maxHeartbeats 4000000 in
theorem putsHaveCells_any (S : Sto) (B : Nat) (v0 v1 v2 : Value) (r : Bool) (w : World) (h : St w B S v0 v1 v2) (hc : S.nc ≤ 200) (hl : S.nl ≤ 200) (hk : S.nw ≤ 200) (z0 : scan (cellF S.c) S.nc = 0) (z1 : scan (lockF S.l) S.nl = 0) (z2 : scan (writeF S.k) S.nw = 0) (hr : r = true ↔ needs S) :
  Calls Tryz.prog 51 #[.agg #[v0, v1, v2]] w fun e w' => e = .returned (.bool r) ∧ Below w.heap.size w w' := by
 obtain ⟨a0, c0, a1, c1, a2, c2, rfl, rfl, rfl⟩ := h.form
 have H : Hid (St w B S (.slice a0 S.nc c0) (.slice a1 S.nl c1) (.slice a2 S.nw c2)) := h
 have HR : Hid (r = true ↔ (∀ x y, (x, y) ∈ putP S.nl S.l S.nw S.k → hasCell S S.nc x y)) := hr.trans putP_needs.symm
 have HW : Hid (∀ x y, (x, y) ∈ putP S.nl S.l S.nw S.k → Wf x ∧ Wf y) := fun x y => putP_wf (scan_zero z1) (scan_zero z2)
 have Z0 : Hid (scan (cellF S.c) S.nc = 0) := z0
 clear h hr z0 z1 z2
 go_enter Tryz.func51, Tryz.ntmps51
 go_wp2_with fail
 refine (cellsByPlace_any S _ B _ ((H.out.alloc _).1) hc Z0.out).mono ?_
 rintro e w1 ⟨rfl, HP, hb1⟩
 have hB : Below w.heap.size w w1 := (below_alloc _ _).trans (hb1.mono (by simp))
 have hB3 := (Blk3.new w (.slice a0 S.nc c0) (.slice a1 S.nl c1) (.slice a2 S.nw c2) 28).later hb1
 have y1 := hB3.1.2.1
 have y2 := hB3.1.2.2
 have hsz : (w.alloc (.cells #[.slice a0 S.nc c0, .slice a1 S.nl c1, .slice a2 S.nw c2] 28)).heap.size = w.heap.size + 1 := by simp
 rw [hsz] at HP hb1
 rw [hsz]
 have HP1 : Hid (PM w1 (w.heap.size + 1) S.nc (cellM S S.nc)) := HP
 clear HP hb1 hB3 hsz
 go_wp2_with fail
 refine (putPlaces_any S.nl S.l S.nw S.k B _ _ w1 (H.out.later hB).2.1 (H.out.later hB).2.2 hl hk).mono ?_
 rintro e w2 ⟨v, rfl, HQ⟩
 obtain ⟨ao, cp, rfl⟩ := HQ.form
 obtain ⟨P, hP⟩ : ∃ P, putP S.nl S.l S.nw S.k = P := ⟨_, rfl⟩
 have hPl : P.length ≤ 400 := by
  rw [← hP, putP, List.length_append]
  have q0 := selP_le S.l 5 2 1 S.nl
  have q1 := selP_le S.k 4 3 2 S.nw
  omega
 rw [hP] at HR HW HQ
 rw [hP]
 clear hP y1 y2
 have HB2 : Hid (Below w.heap.size w w2) := hB.trans (HQ.2.mono hB.size)
 have HM : Hid (PM w2 (w.heap.size + 1) S.nc (cellM S S.nc)) := HP1.out.later HQ.2
 have HO : Hid (Row w2 w1.heap.size 2 P.length (fun p => (flat P).getD p 0) (.slice ao P.length cp)) := HQ.row
 clear HQ hB HP1 H
 go_wp2
 go_loopw [17] (fun i wr => ∃ (k : Nat), k ≤ P.length ∧ i = .int .i64 k ∧ Hid (∀ j, (hj : j < k) → (hj2 : j < P.length) → hasCell S S.nc (P[j]'hj2).1 (P[j]'hj2).2) ∧ Hid (Below w2.heap.size w2 wr)) (fun i _ => P.length - (intOf i).toNat)
 case atStart => exact ⟨0, Nat.zero_le _, rfl, fun j hj => absurd hj (Nat.not_lt_zero j), Below.refl _ _⟩
 case round =>
  obtain ⟨k, hk', rfl, HS, HE⟩ := hrel
  have HB3 : Hid (Below w.heap.size w wr) := HB2.out.trans (HE.out.mono HB2.out.size)
  by_cases hlt : k < P.length
  case neg =>
   have E : Hid (r = true) := HR.out.2 (fun x y hm => by
    obtain ⟨j, hj, e⟩ := List.mem_iff_getElem.1 hm
    have := HS.out j (by omega) hj
    rw [e] at this
    exact this)
   clear HS
   go_wp2
   go_ret
   exact ⟨by rw [E.out]; rfl, HB3.out⟩
  obtain ⟨g, o, ha, _, hg, hx⟩ := (HO.out.later HE.out).at hlt
  subst ha
  have x0 := hx 0 (by omega)
  have x1 := hx 1 (by omega)
  have hfa := flat_at P k hlt
  obtain ⟨n0, N0⟩ : ∃ x, (P[k]'hlt).1 = x := ⟨_, rfl⟩
  obtain ⟨n1, N1⟩ : ∃ x, (P[k]'hlt).2 = x := ⟨_, rfl⟩
  simp only [Nat.add_zero] at x0
  rw [hfa.1, N0] at x0
  rw [hfa.2, N1] at x1
  have hmem : (n0, n1) ∈ P := by rw [← N0, ← N1]; exact List.getElem_mem hlt
  have hwf := HW.out n0 n1 hmem
  have hM2 := (HM.out.later HE.out).alloc (.cells #[.int .i64 n0, .int .i64 n1] 105)
  have hlk := hM2.look hwf.1 hwf.2
  have HB4 : Hid (Below w2.heap.size w2 (wr.alloc (.cells #[.int .i64 n0, .int .i64 n1] 105))) := HE.out.alloc HE.out.size _
  have HB5 : Hid (Below w.heap.size w (wr.alloc (.cells #[.int .i64 n0, .int .i64 n1] 105))) := HB3.out.alloc HB3.out.size _
  obtain ⟨u, hu⟩ : ∃ u, (cellM S S.nc n0 n1).getD 0 = u := ⟨_, rfl⟩
  rw [hu] at hlk
  have hch := cellM_has S S.nc n0 n1
  cases hs : (cellM S S.nc n0 n1).isSome with
  | true =>
   rw [hs] at hlk hch
   have E : Hid (∀ j, (hj : j < k + 1) → (hj2 : j < P.length) → hasCell S S.nc (P[j]'hj2).1 (P[j]'hj2).2) := fun j hj hj2 => by
    by_cases e : j = k
    ·subst e; rw [N0, N1]; exact hch.1 rfl
    ·exact HS.out j (by omega) hj2
   clear hs hch hu hM2 hwf hmem hfa N0 N1 hx HS HE HB3
   go_wp2
   go_roundw
   case rel => exact ⟨k + 1, by omega, by go_num, E, HB4⟩
   case measure => simp [intOf]; omega
  | false =>
   rw [hs] at hlk hch
   have E : Hid (r = false) := by
    cases r with
    | false => rfl
    | true => exact absurd (hch.2 (HR.out.1 rfl n0 n1 hmem)) Bool.false_ne_true
   clear hs hch hu hM2 hwf hmem hfa N0 N1 hx HS HE HB3
   go_wp2
   go_ret
   exact ⟨by rw [E.out]; rfl, HB5.out⟩
end

section
open Go.RowKit Go.Maps
/-- What the loops of startsDiffer stand on. -/
def StartEnv (w : World) (S : Sto) (v0 v1 v2 : Value) (k : Nat) (x : World) : Prop := Blk3 x w.heap.size v0 v1 v2 ∧ PM x (w.heap.size + 1) k (writeM S k) ∧ Below w.heap.size w x
theorem StartEnv.later {w x x' : World} {S : Sto} {v0 v1 v2 : Value} {k : Nat} (h : StartEnv w S v0 v1 v2 k x) (hb : Below x.heap.size x x') : StartEnv w S v0 v1 v2 k x' :=
 ⟨h.1.later hb, h.2.1.later hb, h.2.2.trans (hb.mono h.2.2.size)⟩
set_option maxRecDepth 100000 in
set_option maxHeartbeats 4000000 in
theorem startsDiffer_any (S : Sto) (B : Nat) (v0 v1 v2 : Value) (r : Bool) (w : World) (h : St w B S v0 v1 v2) (hl : S.nl ≤ 200) (hk : S.nw ≤ 200) (z1 : scan (lockF S.l) S.nl = 0) (z2 : scan (writeF S.k) S.nw = 0) (hr : r = true ↔ once S) :
  Calls Tryz.prog 52 #[.agg #[v0, v1, v2]] w fun e w' => e = .returned (.bool r) ∧ Below w.heap.size w w' := by
 obtain ⟨a0, c0, a1, c1, a2, c2, rfl, rfl, rfl⟩ := h.form
 have H : Hid (St w B S (.slice a0 S.nc c0) (.slice a1 S.nl c1) (.slice a2 S.nw c2)) := h
 have HR : Hid (r = true ↔ once S) := hr
 have Z1 : Hid (∀ i, i < S.nl → lockF S.l i = 0) := scan_zero z1
 have Z2 : Hid (∀ i, i < S.nw → writeF S.k i = 0) := scan_zero z2
 clear h hr z1 z2
 have hmm := run_makeMap_i64
 have HE : Hid (StartEnv w S (.slice a0 S.nc c0) (.slice a1 S.nl c1) (.slice a2 S.nw c2) 0 ((w.alloc (.cells #[.slice a0 S.nc c0, .slice a1 S.nl c1, .slice a2 S.nw c2] 28)).alloc (.map #[] 0))) := by
  have hP := PM.made (w.alloc (.cells #[.slice a0 S.nc c0, .slice a1 S.nl c1, .slice a2 S.nw c2] 28))
  rw [show (w.alloc (.cells #[.slice a0 S.nc c0, .slice a1 S.nl c1, .slice a2 S.nw c2] 28)).heap.size = w.heap.size + 1 from by simp] at hP
  exact ⟨(Blk3.new w _ _ _ _).alloc _, hP, (below_alloc _ _).alloc (by simp) _⟩
 go_enter Tryz.func52, Tryz.ntmps52
 go_wp2
 go_loopw [20] (fun i wr => ∃ k : Nat, k ≤ S.nw ∧ i = .int .i64 k ∧ Hid (∀ j, j < k → onceW S j) ∧ Hid (StartEnv w S (.slice a0 S.nc c0) (.slice a1 S.nl c1) (.slice a2 S.nw c2) k wr)) (fun i _ => S.nw - (intOf i).toNat)
 case atStart => exact ⟨0, Nat.zero_le _, rfl, fun j hj => absurd hj (Nat.not_lt_zero j), HE⟩
 case round =>
  clear HE
  obtain ⟨k, hk', rfl, HS, HE⟩ := hrel
  by_cases hlt : k < S.nw
  case neg =>
   obtain rfl : k = S.nw := by omega
   have HW : Hid (∀ i, i < S.nw → onceW S i) := HS
   have y1 := HE.out.1.1.2.1
   clear HS
   go_wp2
   clear y1 hk' hlt
   go_loopw [44] (fun i wr => ∃ k : Nat, k ≤ S.nl ∧ i = .int .i64 k ∧ Hid (∀ j, j < k → onceL S j) ∧ Hid (StartEnv w S (.slice a0 S.nc c0) (.slice a1 S.nl c1) (.slice a2 S.nw c2) S.nw wr)) (fun i _ => S.nl - (intOf i).toNat)
   case atStart => exact ⟨0, Nat.zero_le _, rfl, fun j hj => absurd hj (Nat.not_lt_zero j), HE⟩
   case round =>
    clear HE
    obtain ⟨k, hk', rfl, HS, HE⟩ := hrel
    by_cases hlt : k < S.nl
    case neg =>
     have E : Hid (r = true) := HR.out.2 ⟨HW.out, fun i hi => HS.out i (by omega)⟩
     clear HS
     go_wp2
     go_ret
     exact ⟨by rw [E.out]; rfl, HE.out.2.2⟩
    obtain ⟨g, o, rfl, _, hg, x0, x1, x2, x3, x4⟩ := (H.out.2.1.later HE.out.2.2).at5 hlt
    obtain ⟨n0, N0⟩ : ∃ x, S.l (k * 5) = x := ⟨_, rfl⟩
    rw [N0] at x0
    obtain ⟨n1, N1⟩ : ∃ x, S.l (k * 5 + 1) = x := ⟨_, rfl⟩
    rw [N1] at x1
    obtain ⟨n2, N2⟩ : ∃ x, S.l (k * 5 + 2) = x := ⟨_, rfl⟩
    rw [N2] at x2
    obtain ⟨n3, N3⟩ : ∃ x, S.l (k * 5 + 3) = x := ⟨_, rfl⟩
    rw [N3] at x3
    obtain ⟨n4, N4⟩ : ∃ x, S.l (k * 5 + 4) = x := ⟨_, rfl⟩
    rw [N4] at x4
    have ZZ := lockF_zero (Z1.out k hlt)
    rw [N0, N1] at ZZ
    have hk2 := faultOf_zero ZZ.1
    have hw0 : Wf n0 := wf_small hk2.1 (by omega)
    have hw1 : Wf n1 := wf_small (by omega) (by omega)
    have hE2 : StartEnv w S (.slice a0 S.nc c0) (.slice (some ⟨g, o, none⟩) S.nl c1) (.slice a2 S.nw c2) S.nw (wr.alloc (.cells #[.int .i64 n0, .int .i64 n1, .int .i64 n2, .int .i64 n3, .int .i64 n4] 40)) := HE.out.later (below_alloc wr _)
    have PU : Hid (onceL S k ↔ ¬ hasWrite S S.nw n0 n1) := by
     unfold Hid onceL
     rw [N0, N1]
    clear N0 N1 N2 N3 N4 ZZ hk2
    have hlk := hE2.2.1.look hw0 hw1
    obtain ⟨u, hu⟩ : ∃ u, (writeM S S.nw n0 n1).getD 0 = u := ⟨_, rfl⟩
    rw [hu] at hlk
    clear hu
    by_cases hp : onceL S k
    ·have hs : (writeM S S.nw n0 n1).isSome = false := by
      cases hq : (writeM S S.nw n0 n1).isSome with
      | false => rfl
      | true => exact absurd ((writeM_has S _ _ _).1 hq) (PU.out.1 hp)
     rw [hs] at hlk
     clear hs
     have E : Hid (∀ j, j < k + 1 → onceL S j) := all_next HS.out hp
     have HE2 : Hid (StartEnv w S (.slice a0 S.nc c0) (.slice (some ⟨g, o, none⟩) S.nl c1) (.slice a2 S.nw c2) S.nw (wr.alloc (.cells #[.int .i64 n0, .int .i64 n1, .int .i64 n2, .int .i64 n3, .int .i64 n4] 40))) := hE2
     clear hE2 HS PU hp hw0 hw1
     go_wp2
     go_roundw
     case rel => exact ⟨k + 1, by omega, by go_num, E, HE2⟩
     case measure => simp [intOf]; omega
    ·have hs : (writeM S S.nw n0 n1).isSome = true := by
      refine (writeM_has S _ _ _).2 (Classical.byContradiction fun q => hp (PU.out.2 q))
     rw [hs] at hlk
     clear hs
     have E : Hid (r = false) := by
      cases r with
      | false => rfl
      | true => exact absurd ((HR.out.1 rfl).2 k hlt) hp
     have HE2 : Hid (StartEnv w S (.slice a0 S.nc c0) (.slice (some ⟨g, o, none⟩) S.nl c1) (.slice a2 S.nw c2) S.nw (wr.alloc (.cells #[.int .i64 n0, .int .i64 n1, .int .i64 n2, .int .i64 n3, .int .i64 n4] 40))) := hE2
     clear hE2 HS PU hp hw0 hw1
     go_wp2
     go_ret
     exact ⟨by rw [E.out]; rfl, HE2.out.2.2⟩
  obtain ⟨g, o, rfl, _, hg, x0, x1, x2, x3⟩ := (H.out.2.2.later HE.out.2.2).at4 hlt
  obtain ⟨n0, N0⟩ : ∃ x, S.k (k * 4) = x := ⟨_, rfl⟩
  rw [N0] at x0
  obtain ⟨n1, N1⟩ : ∃ x, S.k (k * 4 + 1) = x := ⟨_, rfl⟩
  rw [N1] at x1
  obtain ⟨n2, N2⟩ : ∃ x, S.k (k * 4 + 2) = x := ⟨_, rfl⟩
  rw [N2] at x2
  obtain ⟨n3, N3⟩ : ∃ x, S.k (k * 4 + 3) = x := ⟨_, rfl⟩
  rw [N3] at x3
  have ZZ := writeF_zero (Z2.out k hlt)
  rw [N0, N2, N3] at ZZ
  have hk2 := faultOf_zero ZZ.1
  have hw0 : Wf n0 := wf_small hk2.1 (by omega)
  have hw1 : Wf n2 := wf_small (by omega) (by omega)
  have hw2 : Wf n3 := wf_small (by omega) (by omega)
  have hE2 : StartEnv w S (.slice a0 S.nc c0) (.slice a1 S.nl c1) (.slice (some ⟨g, o, none⟩) S.nw c2) k ((wr.alloc (.cells #[.int .i64 n0, .int .i64 n1, .int .i64 n2, .int .i64 n3] 55)).alloc (.cells #[.int .i64 n0, .int .i64 n2] 105)) := (HE.out.later (below_alloc wr _)).later (below_alloc _ _)
  have PU : Hid (onceW S k ↔ ¬ hasWrite S k n0 n2) := by
   unfold Hid onceW
   rw [N0, N2]
  have NN : Hid (S.k (k * 4) = n0 ∧ S.k (k * 4 + 2) = n2 ∧ S.k (k * 4 + 3) = n3) := ⟨N0, N2, N3⟩
  clear N0 N1 N2 N3 ZZ hk2
  have hlk := hE2.2.1.look hw0 hw1
  obtain ⟨u, hu⟩ : ∃ u, (writeM S k n0 n2).getD 0 = u := ⟨_, rfl⟩
  rw [hu] at hlk
  clear hu
  by_cases hp : onceW S k
  ·have hs : (writeM S k n0 n2).isSome = false := by
    cases hq : (writeM S k n0 n2).isSome with
    | false => rfl
    | true => exact absurd ((writeM_has S _ _ _).1 hq) (PU.out.1 hp)
   rw [hs] at hlk
   clear hs
   have E : Hid (∀ j, j < k + 1 → onceW S j) := all_next HS.out hp
   have hP := hE2.2.1
   have hB2 := hE2.2.2
   have HB3 : Hid (Blk3 ((wr.alloc (.cells #[.int .i64 n0, .int .i64 n1, .int .i64 n2, .int .i64 n3] 55)).alloc (.cells #[.int .i64 n0, .int .i64 n2] 105)) w.heap.size (.slice a0 S.nc c0) (.slice a1 S.nl c1) (.slice (some ⟨g, o, none⟩) S.nw c2)) := hE2.1
   have hsz : w.heap.size < ((wr.alloc (.cells #[.int .i64 n0, .int .i64 n1, .int .i64 n2, .int .i64 n3] 55)).alloc (.cells #[.int .i64 n0, .int .i64 n2] 105)).heap.size := hE2.1.lt
   clear hE2 HS PU hp
   go_wp2_with (first | (at_mapUpdate; refine wpList_put _ rfl _ _ _ rfl (w.heap.size + 1) k _ rfl hP (small_maxLen (Nat.le_trans hk' hk)) n0 n2 n3 rfl rfl hw0 hw1 hw2 ?_; intro w4 hP4 hg4) | go_in)
   go_roundw
   case rel => exact ⟨k + 1, by omega, by go_num, E, ⟨HB3.out.kept (hg4.block _ hsz (by simp)), by rw [← NN.out.1, ← NN.out.2.1, ← NN.out.2.2] at hP4; exact hP4, below_grown hB2 (Nat.le_of_lt hsz) (Nat.le_succ _) hg4⟩⟩
   case measure => simp [intOf]; omega
  ·have hs : (writeM S k n0 n2).isSome = true := by
    refine (writeM_has S _ _ _).2 (Classical.byContradiction fun q => hp (PU.out.2 q))
   rw [hs] at hlk
   clear hs
   have E : Hid (r = false) := by
    cases r with
    | false => rfl
    | true => exact absurd ((HR.out.1 rfl).1 k hlt) hp
   have HE2 : Hid (StartEnv w S (.slice a0 S.nc c0) (.slice a1 S.nl c1) (.slice (some ⟨g, o, none⟩) S.nw c2) k ((wr.alloc (.cells #[.int .i64 n0, .int .i64 n1, .int .i64 n2, .int .i64 n3] 55)).alloc (.cells #[.int .i64 n0, .int .i64 n2] 105))) := hE2
   clear hE2 HS PU hp hw0 hw1 hw2
   go_wp2
   go_ret
   exact ⟨by rw [E.out]; rfl, HE2.out.2.2⟩
end
end Go.Proofs.YtiadbiiiikhfaaaGreatDoor

namespace Go.Proofs.YtiadbiiiikhfaaaGreatDoor
open Go.RowKit

theorem cellsFault_is (S : Sto) (v : Value) (B : Nat) (r : Int) (hr : scan (cellF S.c) S.nc = r) (w : World) (h : Row w B 3 S.nc S.c v) (hn : S.nc ≤ 200) :
  Calls Tryz.prog 48 #[v] w fun e w' => e = .returned (.int .i64 r) ∧ Below w.heap.size w w' :=
 (cellsFault_any S v B w h hn).mono fun e w' ⟨he, hw⟩ => ⟨by rw [he, hr], hw⟩
theorem locksFault_is (S : Sto) (v : Value) (B : Nat) (r : Int) (hr : scan (lockF S.l) S.nl = r) (w : World) (h : Row w B 5 S.nl S.l v) (hn : S.nl ≤ 200) :
  Calls Tryz.prog 49 #[v] w fun e w' => e = .returned (.int .i64 r) ∧ Below w.heap.size w w' :=
 (locksFault_any S v B w h hn).mono fun e w' ⟨he, hw⟩ => ⟨by rw [he, hr], hw⟩
theorem writesFault_is (S : Sto) (v : Value) (B : Nat) (r : Int) (hr : scan (writeF S.k) S.nw = r) (w : World) (h : Row w B 4 S.nw S.k v) (hn : S.nw ≤ 200) :
  Calls Tryz.prog 50 #[v] w fun e w' => e = .returned (.int .i64 r) ∧ Below w.heap.size w w' :=
 (writesFault_any S v B w h hn).mono fun e w' ⟨he, hw⟩ => ⟨by rw [he, hr], hw⟩
/-- What StoreFault stands on: its own copy of the store. -/
def BoxEnv (w : World) (B : Nat) (S : Sto) (v0 v1 v2 : Value) (x : World) : Prop := Blk3 x w.heap.size v0 v1 v2 ∧ St x B S v0 v1 v2 ∧ Below w.heap.size w x
theorem BoxEnv.later {w x x' : World} {B : Nat} {S : Sto} {v0 v1 v2 : Value} (h : BoxEnv w B S v0 v1 v2 x) (hb : Below x.heap.size x x') : BoxEnv w B S v0 v1 v2 x' :=
 ⟨h.1.later hb, h.2.1.later hb, h.2.2.trans (hb.mono h.2.2.size)⟩
set_option maxRecDepth 10000 in
set_option maxHeartbeats 4000000 in
theorem implFault_any (S : Sto) (v0 v1 v2 : Value) (B : Nat) (w : World) (h : St w B S v0 v1 v2) :
  Calls Tryz.prog 12 #[.agg #[v0, v1, v2]] w fun e w' => e = .returned (.int .i64 (storeF S)) ∧ Below w.heap.size w w' := by
 obtain ⟨a0, c0, a1, c1, a2, c2, rfl, rfl, rfl⟩ := h.form
 have HE : Hid (BoxEnv w B S (.slice a0 S.nc c0) (.slice a1 S.nl c1) (.slice a2 S.nw c2) (w.alloc (.cells #[.slice a0 S.nc c0, .slice a1 S.nl c1, .slice a2 S.nw c2] 28))) := ⟨Blk3.new w _ _ _ _, h.alloc _, below_alloc _ _⟩
 clear h
 by_cases m0 : 200 < S.nc
 ·have E : Hid (storeF S = 2) := by unfold Hid storeF; rw [if_pos (Or.inl m0)]
  go_enter Tryz.func12, Tryz.ntmps12
  go_wp2_with fail
  go_wp2
  go_ret
  exact ⟨by rw [E.out]; rfl, HE.out.2.2⟩
 have m0' : decide ((200 : Int) < (S.nc : Int)) = false := decide_eq_false (by omega)
 by_cases m1 : 200 < S.nl
 ·have E : Hid (storeF S = 2) := by unfold Hid storeF; rw [if_pos (Or.inr (Or.inl m1))]
  clear m0
  go_enter Tryz.func12, Tryz.ntmps12
  go_wp2_with fail
  go_wp2
  go_ret
  exact ⟨by rw [E.out]; rfl, HE.out.2.2⟩
 have m1' : decide ((200 : Int) < (S.nl : Int)) = false := decide_eq_false (by omega)
 by_cases m2 : 200 < S.nw
 ·have E : Hid (storeF S = 2) := by unfold Hid storeF; rw [if_pos (Or.inr (Or.inr m2))]
  clear m0 m1
  go_enter Tryz.func12, Tryz.ntmps12
  go_wp2_with fail
  go_wp2
  go_ret
  exact ⟨by rw [E.out]; rfl, HE.out.2.2⟩
 have m2' : decide ((200 : Int) < (S.nw : Int)) = false := decide_eq_false (by omega)
 have HM : Hid (¬ (200 < S.nc ∨ 200 < S.nl ∨ 200 < S.nw)) := by unfold Hid; omega
 have hc : Hid (S.nc ≤ 200 ∧ S.nl ≤ 200 ∧ S.nw ≤ 200) := ⟨by omega, by omega, by omega⟩
 clear m0 m1 m2
 by_cases z0 : scan (cellF S.c) S.nc = 0
 case neg =>
  obtain ⟨f, hf⟩ : ∃ f, scan (cellF S.c) S.nc = f := ⟨_, rfl⟩
  have E : Hid (storeF S = f) := by unfold Hid storeF; rw [if_neg HM.out, if_pos z0]; exact hf
  have hfn : (f == 0) = false := beq_eq_false_iff_ne.2 (by rw [← hf]; exact z0)
  have F0 : Hid (scan (cellF S.c) S.nc = f) := hf
  clear hf z0
  go_enter Tryz.func12, Tryz.ntmps12
  go_wp2_with fail
  refine (cellsFault_is S _ B f F0.out _ HE.out.2.1.1 hc.out.1).mono ?_
  rintro e w1 ⟨rfl, q1⟩
  have HE : Hid (BoxEnv w B S (.slice a0 S.nc c0) (.slice a1 S.nl c1) (.slice a2 S.nw c2) w1) := HE.out.later q1
  have p0 := HE.out.1.1.1
  have p1 := HE.out.1.1.2.1
  have p2 := HE.out.1.1.2.2
  clear q1
  go_wp2_with fail
  go_wp2
  go_ret
  exact ⟨by rw [E.out]; rfl, HE.out.2.2⟩
 have F0 : Hid (scan (cellF S.c) S.nc = 0) := z0
 have G0 : Hid (¬ scan (cellF S.c) S.nc ≠ 0) := fun h => h z0
 clear z0
 by_cases z0 : scan (lockF S.l) S.nl = 0
 case neg =>
  obtain ⟨f, hf⟩ : ∃ f, scan (lockF S.l) S.nl = f := ⟨_, rfl⟩
  have E : Hid (storeF S = f) := by unfold Hid storeF; rw [if_neg HM.out, if_neg G0.out, if_pos z0]; exact hf
  have hfn : (f == 0) = false := beq_eq_false_iff_ne.2 (by rw [← hf]; exact z0)
  have F1 : Hid (scan (lockF S.l) S.nl = f) := hf
  clear hf z0
  go_enter Tryz.func12, Tryz.ntmps12
  go_wp2_with fail
  refine (cellsFault_is S _ B 0 F0.out _ HE.out.2.1.1 hc.out.1).mono ?_
  rintro e w1 ⟨rfl, q1⟩
  have HE : Hid (BoxEnv w B S (.slice a0 S.nc c0) (.slice a1 S.nl c1) (.slice a2 S.nw c2) w1) := HE.out.later q1
  have p0 := HE.out.1.1.1
  have p1 := HE.out.1.1.2.1
  have p2 := HE.out.1.1.2.2
  clear q1
  go_wp2_with fail
  refine (locksFault_is S _ B f F1.out _ HE.out.2.1.2.1 hc.out.2.1).mono ?_
  rintro e w1 ⟨rfl, q1⟩
  have HE : Hid (BoxEnv w B S (.slice a0 S.nc c0) (.slice a1 S.nl c1) (.slice a2 S.nw c2) w1) := HE.out.later q1
  have p0 := HE.out.1.1.1
  have p1 := HE.out.1.1.2.1
  have p2 := HE.out.1.1.2.2
  clear q1
  go_wp2_with fail
  go_wp2
  go_ret
  exact ⟨by rw [E.out]; rfl, HE.out.2.2⟩
 have F1 : Hid (scan (lockF S.l) S.nl = 0) := z0
 have G1 : Hid (¬ scan (lockF S.l) S.nl ≠ 0) := fun h => h z0
 clear z0
 by_cases z0 : scan (writeF S.k) S.nw = 0
 case neg =>
  obtain ⟨f, hf⟩ : ∃ f, scan (writeF S.k) S.nw = f := ⟨_, rfl⟩
  have E : Hid (storeF S = f) := by unfold Hid storeF; rw [if_neg HM.out, if_neg G0.out, if_neg G1.out, if_pos z0]; exact hf
  have hfn : (f == 0) = false := beq_eq_false_iff_ne.2 (by rw [← hf]; exact z0)
  have F2 : Hid (scan (writeF S.k) S.nw = f) := hf
  clear hf z0
  go_enter Tryz.func12, Tryz.ntmps12
  go_wp2_with fail
  refine (cellsFault_is S _ B 0 F0.out _ HE.out.2.1.1 hc.out.1).mono ?_
  rintro e w1 ⟨rfl, q1⟩
  have HE : Hid (BoxEnv w B S (.slice a0 S.nc c0) (.slice a1 S.nl c1) (.slice a2 S.nw c2) w1) := HE.out.later q1
  have p0 := HE.out.1.1.1
  have p1 := HE.out.1.1.2.1
  have p2 := HE.out.1.1.2.2
  clear q1
  go_wp2_with fail
  refine (locksFault_is S _ B 0 F1.out _ HE.out.2.1.2.1 hc.out.2.1).mono ?_
  rintro e w1 ⟨rfl, q1⟩
  have HE : Hid (BoxEnv w B S (.slice a0 S.nc c0) (.slice a1 S.nl c1) (.slice a2 S.nw c2) w1) := HE.out.later q1
  have p0 := HE.out.1.1.1
  have p1 := HE.out.1.1.2.1
  have p2 := HE.out.1.1.2.2
  clear q1
  go_wp2_with fail
  refine (writesFault_is S _ B f F2.out _ HE.out.2.1.2.2 hc.out.2.2).mono ?_
  rintro e w1 ⟨rfl, q1⟩
  have HE : Hid (BoxEnv w B S (.slice a0 S.nc c0) (.slice a1 S.nl c1) (.slice a2 S.nw c2) w1) := HE.out.later q1
  have p0 := HE.out.1.1.1
  have p1 := HE.out.1.1.2.1
  have p2 := HE.out.1.1.2.2
  clear q1
  go_wp2_with fail
  go_wp2
  go_ret
  exact ⟨by rw [E.out]; rfl, HE.out.2.2⟩
 have F2 : Hid (scan (writeF S.k) S.nw = 0) := z0
 have G2 : Hid (¬ scan (writeF S.k) S.nw ≠ 0) := fun h => h z0
 clear z0
 by_cases y0 : needs S
 case neg =>
  have E : Hid (storeF S = 4) := by unfold Hid storeF; rw [if_neg HM.out, if_neg G0.out, if_neg G1.out, if_neg G2.out, if_pos y0]
  have Y : Hid (false = true ↔ needs S) := ⟨fun h => absurd h (by decide), fun h => absurd h y0⟩
  clear y0
  go_enter Tryz.func12, Tryz.ntmps12
  go_wp2_with fail
  refine (cellsFault_is S _ B 0 F0.out _ HE.out.2.1.1 hc.out.1).mono ?_
  rintro e w1 ⟨rfl, q1⟩
  have HE : Hid (BoxEnv w B S (.slice a0 S.nc c0) (.slice a1 S.nl c1) (.slice a2 S.nw c2) w1) := HE.out.later q1
  have p0 := HE.out.1.1.1
  have p1 := HE.out.1.1.2.1
  have p2 := HE.out.1.1.2.2
  clear q1
  go_wp2_with fail
  refine (locksFault_is S _ B 0 F1.out _ HE.out.2.1.2.1 hc.out.2.1).mono ?_
  rintro e w1 ⟨rfl, q1⟩
  have HE : Hid (BoxEnv w B S (.slice a0 S.nc c0) (.slice a1 S.nl c1) (.slice a2 S.nw c2) w1) := HE.out.later q1
  have p0 := HE.out.1.1.1
  have p1 := HE.out.1.1.2.1
  have p2 := HE.out.1.1.2.2
  clear q1
  go_wp2_with fail
  refine (writesFault_is S _ B 0 F2.out _ HE.out.2.1.2.2 hc.out.2.2).mono ?_
  rintro e w1 ⟨rfl, q1⟩
  have HE : Hid (BoxEnv w B S (.slice a0 S.nc c0) (.slice a1 S.nl c1) (.slice a2 S.nw c2) w1) := HE.out.later q1
  have p0 := HE.out.1.1.1
  have p1 := HE.out.1.1.2.1
  have p2 := HE.out.1.1.2.2
  clear q1
  go_wp2_with fail
  refine (putsHaveCells_any S B _ _ _ false _ HE.out.2.1 hc.out.1 hc.out.2.1 hc.out.2.2 F0.out F1.out F2.out Y.out).mono ?_
  rintro e w1 ⟨rfl, q1⟩
  have HE : Hid (BoxEnv w B S (.slice a0 S.nc c0) (.slice a1 S.nl c1) (.slice a2 S.nw c2) w1) := HE.out.later q1
  have p0 := HE.out.1.1.1
  have p1 := HE.out.1.1.2.1
  have p2 := HE.out.1.1.2.2
  clear q1
  go_wp2_with fail
  go_wp2
  go_ret
  exact ⟨by rw [E.out]; rfl, HE.out.2.2⟩
 have Y : Hid (needs S) := y0
 have G3 : Hid (¬ ¬ needs S) := fun h => h y0
 clear y0
 by_cases y0 : once S
 case neg =>
  have E : Hid (storeF S = 6) := by unfold Hid storeF; rw [if_neg HM.out, if_neg G0.out, if_neg G1.out, if_neg G2.out, if_neg G3.out, if_pos y0]
  have Z : Hid (false = true ↔ once S) := ⟨fun h => absurd h (by decide), fun h => absurd h y0⟩
  clear y0
  go_enter Tryz.func12, Tryz.ntmps12
  go_wp2_with fail
  refine (cellsFault_is S _ B 0 F0.out _ HE.out.2.1.1 hc.out.1).mono ?_
  rintro e w1 ⟨rfl, q1⟩
  have HE : Hid (BoxEnv w B S (.slice a0 S.nc c0) (.slice a1 S.nl c1) (.slice a2 S.nw c2) w1) := HE.out.later q1
  have p0 := HE.out.1.1.1
  have p1 := HE.out.1.1.2.1
  have p2 := HE.out.1.1.2.2
  clear q1
  go_wp2_with fail
  refine (locksFault_is S _ B 0 F1.out _ HE.out.2.1.2.1 hc.out.2.1).mono ?_
  rintro e w1 ⟨rfl, q1⟩
  have HE : Hid (BoxEnv w B S (.slice a0 S.nc c0) (.slice a1 S.nl c1) (.slice a2 S.nw c2) w1) := HE.out.later q1
  have p0 := HE.out.1.1.1
  have p1 := HE.out.1.1.2.1
  have p2 := HE.out.1.1.2.2
  clear q1
  go_wp2_with fail
  refine (writesFault_is S _ B 0 F2.out _ HE.out.2.1.2.2 hc.out.2.2).mono ?_
  rintro e w1 ⟨rfl, q1⟩
  have HE : Hid (BoxEnv w B S (.slice a0 S.nc c0) (.slice a1 S.nl c1) (.slice a2 S.nw c2) w1) := HE.out.later q1
  have p0 := HE.out.1.1.1
  have p1 := HE.out.1.1.2.1
  have p2 := HE.out.1.1.2.2
  clear q1
  go_wp2_with fail
  refine (putsHaveCells_any S B _ _ _ true _ HE.out.2.1 hc.out.1 hc.out.2.1 hc.out.2.2 F0.out F1.out F2.out ⟨fun _ => Y.out, fun _ => rfl⟩).mono ?_
  rintro e w1 ⟨rfl, q1⟩
  have HE : Hid (BoxEnv w B S (.slice a0 S.nc c0) (.slice a1 S.nl c1) (.slice a2 S.nw c2) w1) := HE.out.later q1
  have p0 := HE.out.1.1.1
  have p1 := HE.out.1.1.2.1
  have p2 := HE.out.1.1.2.2
  clear q1
  go_wp2_with fail
  refine (startsDiffer_any S B _ _ _ false _ HE.out.2.1 hc.out.2.1 hc.out.2.2 F1.out F2.out Z.out).mono ?_
  rintro e w1 ⟨rfl, q1⟩
  have HE : Hid (BoxEnv w B S (.slice a0 S.nc c0) (.slice a1 S.nl c1) (.slice a2 S.nw c2) w1) := HE.out.later q1
  have p0 := HE.out.1.1.1
  have p1 := HE.out.1.1.2.1
  have p2 := HE.out.1.1.2.2
  clear q1
  go_wp2_with fail
  go_wp2
  go_ret
  exact ⟨by rw [E.out]; rfl, HE.out.2.2⟩
 have E : Hid (storeF S = 0) := by unfold Hid storeF; rw [if_neg HM.out, if_neg G0.out, if_neg G1.out, if_neg G2.out, if_neg G3.out, if_neg (fun h => h y0)]
 have Z : Hid (once S) := y0
 clear y0
 go_enter Tryz.func12, Tryz.ntmps12
 go_wp2_with fail
 refine (cellsFault_is S _ B 0 F0.out _ HE.out.2.1.1 hc.out.1).mono ?_
 rintro e w1 ⟨rfl, q1⟩
 have HE : Hid (BoxEnv w B S (.slice a0 S.nc c0) (.slice a1 S.nl c1) (.slice a2 S.nw c2) w1) := HE.out.later q1
 have p0 := HE.out.1.1.1
 have p1 := HE.out.1.1.2.1
 have p2 := HE.out.1.1.2.2
 clear q1
 go_wp2_with fail
 refine (locksFault_is S _ B 0 F1.out _ HE.out.2.1.2.1 hc.out.2.1).mono ?_
 rintro e w1 ⟨rfl, q1⟩
 have HE : Hid (BoxEnv w B S (.slice a0 S.nc c0) (.slice a1 S.nl c1) (.slice a2 S.nw c2) w1) := HE.out.later q1
 have p0 := HE.out.1.1.1
 have p1 := HE.out.1.1.2.1
 have p2 := HE.out.1.1.2.2
 clear q1
 go_wp2_with fail
 refine (writesFault_is S _ B 0 F2.out _ HE.out.2.1.2.2 hc.out.2.2).mono ?_
 rintro e w1 ⟨rfl, q1⟩
 have HE : Hid (BoxEnv w B S (.slice a0 S.nc c0) (.slice a1 S.nl c1) (.slice a2 S.nw c2) w1) := HE.out.later q1
 have p0 := HE.out.1.1.1
 have p1 := HE.out.1.1.2.1
 have p2 := HE.out.1.1.2.2
 clear q1
 go_wp2_with fail
 refine (putsHaveCells_any S B _ _ _ true _ HE.out.2.1 hc.out.1 hc.out.2.1 hc.out.2.2 F0.out F1.out F2.out ⟨fun _ => Y.out, fun _ => rfl⟩).mono ?_
 rintro e w1 ⟨rfl, q1⟩
 have HE : Hid (BoxEnv w B S (.slice a0 S.nc c0) (.slice a1 S.nl c1) (.slice a2 S.nw c2) w1) := HE.out.later q1
 have p0 := HE.out.1.1.1
 have p1 := HE.out.1.1.2.1
 have p2 := HE.out.1.1.2.2
 clear q1
 go_wp2_with fail
 refine (startsDiffer_any S B _ _ _ true _ HE.out.2.1 hc.out.2.1 hc.out.2.2 F1.out F2.out ⟨fun _ => Z.out, fun _ => rfl⟩).mono ?_
 rintro e w1 ⟨rfl, q1⟩
 have HE : Hid (BoxEnv w B S (.slice a0 S.nc c0) (.slice a1 S.nl c1) (.slice a2 S.nw c2) w1) := HE.out.later q1
 have p0 := HE.out.1.1.1
 have p1 := HE.out.1.1.2.1
 have p2 := HE.out.1.1.2.2
 clear q1
 go_wp2_with fail
 go_wp2
 go_ret
 exact ⟨by rw [E.out]; rfl, HE.out.2.2⟩
end Go.Proofs.YtiadbiiiikhfaaaGreatDoor

namespace Go.Proofs.YtiadbiiiikhfaaaGreatDoor
open Go.RowKit

theorem ask_bad {S : Sto} {key : Int} (h : storeF S ≠ 0) : askF S key = storeF S := by unfold askF; rw [if_pos h]
theorem ask_key {S : Sto} {key : Int} (h : storeF S = 0) : askF S key = faultOf key := by unfold askF; rw [if_neg (fun q => q h)]
set_option maxRecDepth 10000 in
theorem askFault_any (S : Sto) (v0 v1 v2 : Value) (key : Int) (B : Nat) (w : World) (h : St w B S v0 v1 v2) :
  Calls Tryz.prog 31 #[.agg #[v0, v1, v2], .int .i64 key] w fun e w' => e = .returned (.int .i64 (askF S key)) ∧ Below w.heap.size w w' := by
 obtain ⟨a0, c0, a1, c1, a2, c2, rfl, rfl, rfl⟩ := h.form
 have H : Hid (St w B S (.slice a0 S.nc c0) (.slice a1 S.nl c1) (.slice a2 S.nw c2)) := h
 clear h
 by_cases hz : storeF S = 0
 ·have E : Hid (askF S key = faultOf key) := ask_key hz
  have Z : Hid (storeF S = 0) := hz
  clear hz
  obtain ⟨f, hf⟩ : ∃ f, Hid (faultOf key = f) := ⟨_, rfl⟩
  go_enter Tryz.func31, Tryz.ntmps31
  go_wp2_with fail
  refine (implFault_any S _ _ _ B _ (H.out.alloc _)).mono ?_
  rw [Z.out]
  rintro e w1 ⟨rfl, q1⟩
  have Q : Hid (Below w.heap.size w w1) := (below_alloc _ _).trans (q1.mono (by simp))
  clear q1
  go_wp2_with fail
  refine (keyFault_any key _).mono ?_
  rw [hf.out]
  rintro e w2 ⟨rfl, rfl⟩
  go_wp2
  go_ret
  exact ⟨by rw [E.out, hf.out]; rfl, Q.out⟩
 ·have E : Hid (askF S key = storeF S) := ask_bad hz
  obtain ⟨f, hf⟩ : ∃ f, storeF S = f := ⟨_, rfl⟩
  have HF : Hid (storeF S = f) := hf
  have hfn : (f == 0) = false := beq_eq_false_iff_ne.2 (by rw [← hf]; exact hz)
  clear hz hf
  go_enter Tryz.func31, Tryz.ntmps31
  go_wp2_with fail
  refine (implFault_any S _ _ _ B _ (H.out.alloc _)).mono ?_
  rw [HF.out]
  rintro e w1 ⟨rfl, q1⟩
  have Q : Hid (Below w.heap.size w w1) := (below_alloc _ _).trans (q1.mono (by simp))
  clear q1
  go_wp2
  go_ret
  exact ⟨by rw [E.out, HF.out]; rfl, Q.out⟩
set_option maxRecDepth 10000 in
theorem asked_any (S : Sto) (b : Nat) (v0 v1 v2 : Value) (key : Int) (w : World) (h : Lies w b S v0 v1 v2) :
  Calls Tryz.prog 40 #[.pointer (some ⟨b, 0, none⟩), .int .i64 key] w fun e w' => e = .returned (.int .i64 (askF S key)) ∧ Below w.heap.size w w' := by
 have H : Hid (Lies w b S v0 v1 v2) := h
 clear h
 by_cases hz : storeF S = 0
 ·have E : Hid (askF S key = faultOf key) := ask_key hz
  have Z : Hid (storeF S = 0) := hz
  clear hz
  obtain ⟨f, hf⟩ : ∃ f, Hid (faultOf key = f) := ⟨_, rfl⟩
  go_enter Tryz.func40, Tryz.ntmps40
  go_wp2_with fail
  refine (l2Fault_any S b _ _ _ _ H.out).mono ?_
  rw [Z.out]
  rintro e w1 ⟨rfl, q1⟩
  have Q : Hid (Below w.heap.size w w1) := q1
  clear q1
  go_wp2_with fail
  refine (l1Fault_any key _).mono ?_
  rw [hf.out]
  rintro e w2 ⟨rfl, rfl⟩
  go_wp2
  go_ret
  exact ⟨by rw [E.out, hf.out]; rfl, Q.out⟩
 ·have E : Hid (askF S key = storeF S) := ask_bad hz
  obtain ⟨f, hf⟩ : ∃ f, storeF S = f := ⟨_, rfl⟩
  have HF : Hid (storeF S = f) := hf
  have hfn : (f == 0) = false := beq_eq_false_iff_ne.2 (by rw [← hf]; exact hz)
  clear hz hf
  go_enter Tryz.func40, Tryz.ntmps40
  go_wp2_with fail
  refine (l2Fault_any S b _ _ _ _ H.out).mono ?_
  rw [HF.out]
  rintro e w1 ⟨rfl, q1⟩
  have Q : Hid (Below w.heap.size w w1) := q1
  clear q1
  go_wp2
  go_ret
  exact ⟨by rw [E.out, HF.out]; rfl, Q.out⟩
/-- What a function over a store stands on: its own copy of the store, and its result. -/
def CallEnv (w : World) (B : Nat) (S : Sto) (v0 v1 v2 r0 r1 : Value) (x : World) : Prop := Blk3 x w.heap.size v0 v1 v2 ∧ Blk2 x (w.heap.size + 1) r0 r1 ∧ St x B S v0 v1 v2 ∧ Below w.heap.size w x
theorem CallEnv.later {w x x' : World} {B : Nat} {S : Sto} {v0 v1 v2 r0 r1 : Value} (h : CallEnv w B S v0 v1 v2 r0 r1 x) (hb : Below x.heap.size x x') : CallEnv w B S v0 v1 v2 r0 r1 x' :=
 ⟨h.1.later hb, h.2.1.later hb, h.2.2.1.later hb, h.2.2.2.trans (hb.mono h.2.2.2.size)⟩
theorem CallEnv.new {w : World} {B : Nat} {S : Sto} {v0 v1 v2 : Value} (h : St w B S v0 v1 v2) (r0 r1 : Value) (t t' : TypeId) : CallEnv w B S v0 v1 v2 r0 r1 ((w.alloc (.cells #[v0, v1, v2] t)).alloc (.cells #[r0, r1] t')) := by
 refine ⟨(Blk3.new w _ _ _ _).alloc _, ?_, (h.alloc _).alloc _, (below_alloc _ _).alloc (by simp) _⟩
 have := Blk2.new (w.alloc (.cells #[v0, v1, v2] t)) r0 r1 t'
 rwa [World.size_alloc] at this
end Go.Proofs.YtiadbiiiikhfaaaGreatDoor

namespace Go.Proofs.YtiadbiiiikhfaaaGreatDoor
open Go.RowKit

def lockIs (l : Nat → Int) (a : Int) (i : Nat) : Prop := l (i * 5) = a
set_option maxRecDepth 10000 in
set_option maxHeartbeats 2000000 in
theorem l2Lock_anyO (S : Sto) (b oo : Nat) (v0 v1 v2 : Value) (a : Int) (w : World) (h : LiesO w b oo S v0 v1 v2) (hn : S.nl ≤ 200) :
  Calls Tryz.prog 87 #[.pointer (some ⟨b, oo, none⟩), .int .i64 a] w fun e w' => ∃ r : Int, e = .returned (.int .i64 r) ∧ FirstAt (lockIs S.l a) S.nl r ∧ w' = w := by
 obtain ⟨a0, c0, a1, c1, a2, c2, rfl, rfl, rfl⟩ := h.2.form
 have H : Hid (LiesO w b oo S (.slice a0 S.nc c0) (.slice a1 S.nl c1) (.slice a2 S.nw c2)) := h
 have p0 := h.1.2.1
 have hb := h.lt
 clear h
 go_enter Tryz.func87, Tryz.ntmps87
 go_wp2
 go_loop [5] (fun i => ∃ k : Nat, k ≤ S.nl ∧ i = .int .i64 k ∧ Hid (∀ j, j < k → ¬ lockIs S.l a j)) (fun i => S.nl - (intOf i).toNat)
 case atStart => exact ⟨0, Nat.zero_le _, rfl, fun j hj => absurd hj (Nat.not_lt_zero j)⟩
 case round =>
  obtain ⟨k, hk, rfl, HS⟩ := hrel
  by_cases hlt : k < S.nl
  case neg =>
   obtain rfl : k = S.nl := by omega
   go_wp2
   go_ret
   exact ⟨_, rfl, Or.inl ⟨rfl, HS.out⟩, rfl⟩
  obtain ⟨g, o, rfl, _, hg, x0, x1, x2, x3, x4⟩ := H.out.2.2.1.at5 hlt
  obtain ⟨n0, N0⟩ : ∃ x, S.l (k * 5) = x := ⟨_, rfl⟩
  rw [N0] at x0
  by_cases h0 : n0 = a
  ·have E : Hid (lockIs S.l a k) := N0.trans h0
   clear N0
   subst h0
   go_wp2
   go_ret
   exact ⟨_, rfl, Or.inr ⟨k, hlt, rfl, E.out, HS.out⟩, rfl⟩
  ·have E : Hid (∀ j, j < k + 1 → ¬ lockIs S.l a j) := all_next HS.out (fun q => h0 (N0.symm.trans q))
   have d0 : (n0 == a) = false := beq_eq_false_iff_ne.2 h0
   clear N0 HS h0
   go_wp2
   go_round
   case rel => exact ⟨k + 1, by omega, by go_num, E⟩
   case measure => simp [intOf]; omega
theorem l2Lock_isO (S : Sto) (b oo : Nat) (v0 v1 v2 : Value) (a r : Int) (w : World) (h : LiesO w b oo S v0 v1 v2) (hn : S.nl ≤ 200) (hr : FirstAt (lockIs S.l a) S.nl r) :
  Calls Tryz.prog 87 #[.pointer (some ⟨b, oo, none⟩), .int .i64 a] w fun e w' => e = .returned (.int .i64 r) ∧ w' = w :=
 (l2Lock_anyO S b oo v0 v1 v2 a w h hn).mono fun e w' ⟨r', he, hr', hw⟩ => ⟨by rw [he, hr.one hr'], hw⟩
theorem l2Lock_is (S : Sto) (b : Nat) (v0 v1 v2 : Value) (a r : Int) (w : World) (h : Lies w b S v0 v1 v2) (hn : S.nl ≤ 200) (hr : FirstAt (lockIs S.l a) S.nl r) :
  Calls Tryz.prog 87 #[.pointer (some ⟨b, 0, none⟩), .int .i64 a] w fun e w' => e = .returned (.int .i64 r) ∧ w' = w := l2Lock_isO S b 0 v0 v1 v2 a r w h hn hr
/-- A block of five cells, all zero, none frozen. -/
def Zero5 (x : World) (b : Nat) : Prop := (x.cell? ⟨b, 0, none⟩ = some (.int .i64 0) ∧ x.cell? ⟨b, 1, none⟩ = some (.int .i64 0) ∧ x.cell? ⟨b, 2, none⟩ = some (.int .i64 0) ∧ x.cell? ⟨b, 3, none⟩ = some (.int .i64 0) ∧ x.cell? ⟨b, 4, none⟩ = some (.int .i64 0)) ∧ x.frozen? ⟨b, 0, none⟩ = false ∧ x.frozen? ⟨b, 1, none⟩ = false ∧ x.frozen? ⟨b, 2, none⟩ = false ∧ x.frozen? ⟨b, 3, none⟩ = false ∧ x.frozen? ⟨b, 4, none⟩ = false
theorem Zero5.later {x x' : World} {b : Nat} (h : Zero5 x b) (hb : Below x.heap.size x x') : Zero5 x' b := by
 have hl : b < x.heap.size := World.block_lt_of_cell? x _ h.1.1
 obtain ⟨⟨h0, h1, h2, h3, h4⟩, f0, f1, f2, f3, f4⟩ := h
 exact ⟨⟨(hb.cell (p := ⟨b, 0, none⟩) hl).trans h0, (hb.cell (p := ⟨b, 1, none⟩) hl).trans h1, (hb.cell (p := ⟨b, 2, none⟩) hl).trans h2, (hb.cell (p := ⟨b, 3, none⟩) hl).trans h3, (hb.cell (p := ⟨b, 4, none⟩) hl).trans h4⟩,
  (hb.frozen (p := ⟨b, 0, none⟩) hl).trans f0, (hb.frozen (p := ⟨b, 1, none⟩) hl).trans f1, (hb.frozen (p := ⟨b, 2, none⟩) hl).trans f2, (hb.frozen (p := ⟨b, 3, none⟩) hl).trans f3, (hb.frozen (p := ⟨b, 4, none⟩) hl).trans f4⟩
theorem Zero5.new (w : World) (t : TypeId) : Zero5 (w.alloc (.cells #[.int .i64 0, .int .i64 0, .int .i64 0, .int .i64 0, .int .i64 0] t)) w.heap.size := by
 refine ⟨⟨World.cell?_alloc_mark w _ _ _ 0, World.cell?_alloc_mark w _ _ _ 1, World.cell?_alloc_mark w _ _ _ 2, World.cell?_alloc_mark w _ _ _ 3, World.cell?_alloc_mark w _ _ _ 4⟩, ?_, ?_, ?_, ?_, ?_⟩ <;> simp
/-- What lockOf tells: the first lock of a key, or none. -/
def LockTold (nl : Nat) (l : Nat → Int) (key : Int) (v : Value) : Prop :=
 (∃ i, i < nl ∧ lockIs l key i ∧ (∀ j, j < i → ¬ lockIs l key j) ∧ v = .tuple #[.agg #[.int .i64 (l (i * 5)), .int .i64 (l (i * 5 + 1)), .int .i64 (l (i * 5 + 2)), .int .i64 (l (i * 5 + 3)), .int .i64 (l (i * 5 + 4))], .bool true]) ∨
 ((∀ i, i < nl → ¬ lockIs l key i) ∧ v = .tuple #[.agg #[.int .i64 0, .int .i64 0, .int .i64 0, .int .i64 0, .int .i64 0], .bool false])
set_option maxRecDepth 100000 in
set_option maxHeartbeats 2000000 in
theorem lockOf_anyO (B b oo N : Nat) (m : Int → Int → Option Int) (nl : Nat) (l : Nat → Int) (nw : Nat) (k : Nat → Int) (g : Nat) (u1 u2 : Value) (key : Int) (w : World) (h : ColsO w B b oo N m nl l nw k g u1 u2) (hn : nl ≤ 200) :
  Calls Tryz.prog 46 #[.pointer (some ⟨b, oo, none⟩), .int .i64 key] w fun e w' => ∃ v, e = .returned v ∧ LockTold nl l key v ∧ Below w.heap.size w w' := by
 obtain ⟨a1, c1, rfl⟩ := h.2.2.2.2.1.form
 have H : Hid (Row w B 5 nl l (.slice a1 nl c1)) := h.2.2.2.2.1.row.1
 have p1 := h.2.2.1.1.2.1
 have hb := h.2.2.1.lt
 clear h
 go_enter Tryz.func46, Tryz.ntmps46
 go_wp2
 clear p1
 go_loopw [13] (fun i wr => ∃ q : Nat, q ≤ nl ∧ i = .int .i64 q ∧ Hid (∀ j, j < q → ¬ lockIs l key j) ∧ Hid (Below w.heap.size w wr ∧ Zero5 wr w.heap.size)) (fun i _ => nl - (intOf i).toNat)
 case atStart => exact ⟨0, Nat.zero_le _, rfl, fun j hj => absurd hj (Nat.not_lt_zero j), below_alloc _ _, Zero5.new w _⟩
 case round =>
  obtain ⟨q, hq, rfl, HS, HB⟩ := hrel
  by_cases hlt : q < nl
  case neg =>
   obtain rfl : q = nl := by omega
   obtain ⟨⟨t0, t1, t2, t3, t4⟩, f0, f1, f2, f3, f4⟩ := HB.out.2
   go_wp2
   refine bodyPost_ret (v := .tuple #[.agg #[.int .i64 0, .int .i64 0, .int .i64 0, .int .i64 0, .int .i64 0], .bool false]) (by simp [results, Tryz.results46, go_sem, t0, t1, t2, t3, t4]) rfl ⟨_, rfl, Or.inr ⟨HS.out, rfl⟩, ?_⟩
   exact ((((HB.out.1.setCell (Nat.le_refl _) _).setCell (Nat.le_refl _) _).setCell (Nat.le_refl _) _).setCell (Nat.le_refl _) _).setCell (Nat.le_refl _) _
  obtain ⟨g', o, rfl, _, hg, x0, x1, x2, x3, x4⟩ := (H.out.later HB.out.1).at5 hlt
  obtain ⟨n0, N0⟩ : ∃ x, l (q * 5) = x := ⟨_, rfl⟩
  rw [N0] at x0
  obtain ⟨n1, N1⟩ : ∃ x, l (q * 5 + 1) = x := ⟨_, rfl⟩
  rw [N1] at x1
  obtain ⟨n2, N2⟩ : ∃ x, l (q * 5 + 2) = x := ⟨_, rfl⟩
  rw [N2] at x2
  obtain ⟨n3, N3⟩ : ∃ x, l (q * 5 + 3) = x := ⟨_, rfl⟩
  rw [N3] at x3
  obtain ⟨n4, N4⟩ : ∃ x, l (q * 5 + 4) = x := ⟨_, rfl⟩
  rw [N4] at x4
  have hZ := HB.out.2.later (below_alloc wr (.cells #[.int .i64 n0, .int .i64 n1, .int .i64 n2, .int .i64 n3, .int .i64 n4] 40))
  have hB2 := HB.out.1.alloc HB.out.1.size (.cells #[.int .i64 n0, .int .i64 n1, .int .i64 n2, .int .i64 n3, .int .i64 n4] 40)
  have NN : Hid (l (q * 5) = n0 ∧ l (q * 5 + 1) = n1 ∧ l (q * 5 + 2) = n2 ∧ l (q * 5 + 3) = n3 ∧ l (q * 5 + 4) = n4) := ⟨N0, N1, N2, N3, N4⟩
  by_cases h0 : n0 = key
  ·have E : Hid (lockIs l key q) := N0.trans h0
   have hne : ¬ wr.heap.size = w.heap.size := fun e => by have := World.block_lt_of_cell? wr _ HB.out.2.1.1; simp at this; omega
   obtain ⟨⟨t0, t1, t2, t3, t4⟩, f0, f1, f2, f3, f4⟩ := hZ
   clear N0 N1 N2 N3 N4 HB
   subst h0
   go_wp2
   refine bodyPost_ret (v := .tuple #[.agg #[.int .i64 n0, .int .i64 n1, .int .i64 n2, .int .i64 n3, .int .i64 n4], .bool true]) (by simp [results, Tryz.results46, go_sem, t0, t1, t2, t3, t4]) rfl ⟨_, rfl, Or.inl ⟨q, hlt, E.out, HS.out, by rw [NN.out.1, NN.out.2.1, NN.out.2.2.1, NN.out.2.2.2.1, NN.out.2.2.2.2]⟩, ?_⟩
   exact ((((hB2.setCell (Nat.le_refl _) _).setCell (Nat.le_refl _) _).setCell (Nat.le_refl _) _).setCell (Nat.le_refl _) _).setCell (Nat.le_refl _) _
  ·have E : Hid (∀ j, j < q + 1 → ¬ lockIs l key j) := all_next HS.out (fun e => h0 (N0.symm.trans e))
   have HE : Hid (Below w.heap.size w (wr.alloc (.cells #[.int .i64 n0, .int .i64 n1, .int .i64 n2, .int .i64 n3, .int .i64 n4] 40)) ∧ Zero5 (wr.alloc (.cells #[.int .i64 n0, .int .i64 n1, .int .i64 n2, .int .i64 n3, .int .i64 n4] 40)) w.heap.size) := ⟨hB2, hZ⟩
   have d0 : (n0 == key) = false := beq_eq_false_iff_ne.2 h0
   clear N0 N1 N2 N3 N4 NN HS h0 hZ hB2 HB
   go_wp2
   go_roundw
   case rel => exact ⟨q + 1, by omega, by go_num, E, HE⟩
   case measure => simp [intOf]; omega
theorem lockOf_any (B b N : Nat) (m : Int → Int → Option Int) (nl : Nat) (l : Nat → Int) (nw : Nat) (k : Nat → Int) (g : Nat) (u1 u2 : Value) (key : Int) (w : World) (h : Cols w B b N m nl l nw k g u1 u2) (hn : nl ≤ 200) :
  Calls Tryz.prog 46 #[.pointer (some ⟨b, 0, none⟩), .int .i64 key] w fun e w' => ∃ v, e = .returned v ∧ LockTold nl l key v ∧ Below w.heap.size w w' := lockOf_anyO B b 0 N m nl l nw k g u1 u2 key w h hn
end Go.Proofs.YtiadbiiiikhfaaaGreatDoor

namespace Go.Proofs.YtiadbiiiikhfaaaGreatDoor
open Go.RowKit

def allQ : Nat → List (List Bool)
 | 0 => [[]]
 | n + 1 => (allQ n).flatMap fun A => [false :: A, true :: A]
theorem mem_allQ : ∀ (n : Nat) (A : List Bool), A.length = n → A ∈ allQ n
 | 0, [], _ => by simp [allQ]
 | 0, _ :: _, h => by simp at h
 | _ + 1, [], h => by simp at h
 | n + 1, x :: A, h => by
  have h1 := mem_allQ n A (by simpa using h)
  simp only [allQ, List.mem_flatMap]
  exact ⟨A, h1, by cases x <;> simp⟩
/-- Which operations are done: the literals of A, the first k calls, the one more. -/
def mkQ (n : Nat) (oL oC : Nat → Nat) (oE : Nat) (l0 : Array Bool) (A : List Bool) (e : Bool) (k : Nat) : Array Bool :=
 (fun x : Array Bool => if e then x.setIfInBounds oE true else x) <|
 (List.range n).foldl (fun l i => (fun l2 : Array Bool => if i < k then l2.setIfInBounds (oC i) true else l2) (if A.getD i false then l.setIfInBounds (oL i) true else l)) l0
def leftQ (e : Bool) : Nat := if e then 0 else 1
def remQ (n : Nat) (A : List Bool) (e : Bool) (k : Nat) : Nat := A.countP (fun x => !x) + (n - k) + leftQ e
def isQ (n : Nat) (oL : Nat → Nat) (A : List Bool) (j : Nat) : Bool := (List.range n).any fun i => oL i == j && A.getD i true == false
def chkQ1 (md : Region.Mode) (ops : Array Oper) (n : Nat) (oL oC : Nat → Nat) (oE : Nat) (l0 : Array Bool) (A : List Bool) (e : Bool) (k : Nat) : Bool :=
 !((List.range k).all fun i => A.getD i false) ||
 (if k == n then A == List.replicate n true
  else (!(Region.ready md ops (mkQ n oL oC oE l0 A e k)).isEmpty) &&
  ((Region.ready md ops (mkQ n oL oC oE l0 A e k)).all fun j => isQ n oL A j || (oE == j && !e) || (oC k == j && A.getD k false)) &&
  ((List.range n).all fun i => A.getD i true || ((mkQ n oL oC oE l0 A e k).setIfInBounds (oL i) true == mkQ n oL oC oE l0 (A.set i true) e k && remQ n (A.set i true) e k + 1 == remQ n A e k)) &&
  (e || ((mkQ n oL oC oE l0 A e k).setIfInBounds oE true == mkQ n oL oC oE l0 A true k)) &&
  (!A.getD k false || ((mkQ n oL oC oE l0 A e k).setIfInBounds (oC k) true == mkQ n oL oC oE l0 A e (k + 1) && remQ n A e (k + 1) + 1 == remQ n A e k)))
def chkQ (md : Region.Mode) (ops : Array Oper) (n : Nat) (oL oC : Nat → Nat) (oE : Nat) (l0 : Array Bool) : Bool :=
 (allQ n).all fun A => (List.range (n + 1)).all fun k => chkQ1 md ops n oL oC oE l0 A false k && chkQ1 md ops n oL oC oE l0 A true k
theorem chkQ_at {md : Region.Mode} {ops : Array Oper} {n : Nat} {oL oC : Nat → Nat} {oE : Nat} {l0 : Array Bool} (h : chkQ md ops n oL oC oE l0 = true) {A : List Bool} {e : Bool} {k : Nat} (hA : A.length = n) (hk : k ≤ n) : chkQ1 md ops n oL oC oE l0 A e k = true := by
 have := List.all_eq_true.1 (List.all_eq_true.1 h A (mem_allQ _ _ hA)) k (List.mem_range.2 (by omega))
 rw [Bool.and_eq_true] at this
 cases e
 ·exact this.1
 ·exact this.2
/-- An operation that hands on what stands. -/
def OpQ (ops : Array Oper) (Q : Exit → Act → World → Prop) (j : Nat) (a : Act) (x : World) (R : Act → World → Prop) : Prop :=
 ∃ o, ops[j]? = some o ∧ o.guard = none ∧ ∀ K : Act → World → Prop, (∀ a' x', R a' x' → K a' x') → Oper.wp Tryz.prog o a x K Q
theorem wpAnyH_concs {ops : Array Oper} {Q : Exit → Act → World → Prop} {md : Region.Mode} {S : World → Prop} (n : Nat) (oL oC : Nat → Nat) (oE : Nat) (l0 : Array Bool) (f : Nat) (Z : List Bool → Bool → Nat → Act → World → Prop)
  (hchk : chkQ md ops n oL oC oE l0 = true) (hlen : ∀ A e k a x, Z A e k a x → A.length = n ∧ k ≤ n ∧ ∀ i, i < k → A.getD i false = true) (hS : ∀ A e k a x, Z A e k a x → S x)
  (hlit : ∀ A e k a x i, Z A e k a x → i < n → A.getD i true = false → OpQ ops Q (oL i) a x (Z (A.set i true) e k))
  (hcall : ∀ A e k a x, Z A e k a x → k < n → A.getD k false = true → OpQ ops Q (oC k) a x (Z A e (k + 1)))
  (hone : ∀ A k a x, Z A false k a x → OpQ ops Q oE a x (Z A true k))
  (hend : ∀ e a x, Z (List.replicate n true) e n a x → wpAnyH Tryz.prog md ops Q S (leftQ e + f) (mkQ n oL oC oE l0 (List.replicate n true) e n) a x) :
  ∀ (c : Nat) (A : List Bool) (e : Bool) (k : Nat) (a : Act) (x : World), remQ n A e k = c → Z A e k a x → wpAnyH Tryz.prog md ops Q S (c + f) (mkQ n oL oC oE l0 A e k) a x := by
 have fin : ∀ (c : Nat) (A : List Bool) (e : Bool) (a : Act) (x : World), remQ n A e n = c → Z A e n a x → wpAnyH Tryz.prog md ops Q S (c + f) (mkQ n oL oC oE l0 A e n) a x := by
  intro c A e a x hr h
  obtain ⟨h1, h2, h3⟩ := hlen _ _ _ _ _ h
  have hc := chkQ_at (e := e) hchk h1 h2
  have hgo : ((List.range n).all fun i => A.getD i false) = true := List.all_eq_true.2 fun i hi => h3 i (List.mem_range.1 hi)
  unfold chkQ1 at hc
  rw [hgo, if_pos (beq_self_eq_true _)] at hc
  simp only [Bool.not_true, Bool.false_or, beq_iff_eq] at hc
  have hn : c = leftQ e := by
   rw [← hr, hc]
   unfold remQ
   rw [List.countP_replicate]
   simp
  rw [hn]
  rw [hc] at h ⊢
  exact hend e a x h
 intro c
 induction c with
 | zero =>
  intro A e k a x hr h
  have h1 := (hlen _ _ _ _ _ h).2.1
  obtain rfl : k = n := by unfold remQ at hr; omega
  exact fin 0 A e a x hr h
 | succ c ih =>
  intro A e k a x hr h
  by_cases hk : k = n
  ·subst hk
   exact fin (c + 1) A e a x hr h
  obtain ⟨q1, q2, q3⟩ := hlen _ _ _ _ _ h
  have h1 := chkQ_at (e := e) hchk q1 q2
  have hgo : ((List.range k).all fun i => A.getD i false) = true := List.all_eq_true.2 fun i hi => q3 i (List.mem_range.1 hi)
  unfold chkQ1 at h1
  rw [hgo, if_neg (by simp [hk])] at h1
  simp only [Bool.not_true, Bool.false_or, Bool.and_eq_true] at h1
  obtain ⟨⟨⟨⟨hne, hall⟩, hl⟩, he1⟩, hcl⟩ := h1
  rw [show c + 1 + f = (c + f) + 1 by omega]
  refine ⟨fun h0 => by rw [h0] at hne; simp at hne, fun j hj => ?_⟩
  have hj' := List.all_eq_true.1 hall j hj
  rw [Bool.or_eq_true, Bool.or_eq_true] at hj'
  rcases hj' with (hj' | hj') | hj'
  ·obtain ⟨i, hi, hij⟩ := List.any_eq_true.1 hj'
   rw [Bool.and_eq_true, beq_iff_eq, beq_iff_eq] at hij
   obtain ⟨hij, hAi⟩ := hij
   have hin : i < n := List.mem_range.1 hi
   subst hij
   have hcl' := List.all_eq_true.1 hl i hi
   rw [hAi] at hcl'
   simp only [Bool.false_or, Bool.and_eq_true, beq_iff_eq] at hcl'
   obtain ⟨o', ho, hg, hwp⟩ := hlit A e k a x i h hin hAi
   refine wpOp_step ho (fun K' hK => ?_)
   rw [if_pos (by simp [Region.wanted, hg])]
   refine hwp K' (fun a' x' h' => hK _ _ ⟨hS _ _ _ _ _ h', ?_⟩)
   rw [hcl'.1]
   exact ih _ _ _ _ _ (by have := hcl'.2; omega) h'
  ·rw [Bool.and_eq_true, beq_iff_eq] at hj'
   obtain ⟨rfl, he⟩ := hj'
   obtain rfl : e = false := by simpa using he
   simp only [Bool.false_or, beq_iff_eq] at he1
   obtain ⟨o', ho, hg, hwp⟩ := hone A k a x h
   refine wpOp_step ho (fun K' hK => ?_)
   rw [if_pos (by simp [Region.wanted, hg])]
   refine hwp K' (fun a' x' h' => hK _ _ ⟨hS _ _ _ _ _ h', ?_⟩)
   rw [he1]
   refine ih _ _ _ _ _ ?_ h'
   unfold remQ leftQ at hr ⊢
   simp only [Bool.false_eq_true, if_false, if_true] at hr ⊢
   omega
  ·rw [Bool.and_eq_true, beq_iff_eq] at hj'
   obtain ⟨hij, hAk⟩ := hj'
   subst hij
   rw [hAk] at hcl
   simp only [Bool.not_true, Bool.false_or, Bool.and_eq_true, beq_iff_eq] at hcl
   obtain ⟨o', ho, hg, hwp⟩ := hcall A e k a x h (by omega) hAk
   refine wpOp_step ho (fun K' hK => ?_)
   rw [if_pos (by simp [Region.wanted, hg])]
   refine hwp K' (fun a' x' h' => hK _ _ ⟨hS _ _ _ _ _ h', ?_⟩)
   rw [hcl.1]
   exact ih _ _ _ _ _ (by have := hcl.2; omega) h'
theorem actQ_ext {a b : Act} (hs : a.tmps.size = b.tmps.size) (hd : a.defers = b.defers) (he : ∀ t, a.eval (.tmp t) = b.eval (.tmp t)) : a = b := by
 obtain ⟨ta, da⟩ := a
 obtain ⟨tb, db⟩ := b
 simp only at hs hd
 subst hd
 have : ta = tb := by
  apply Array.ext hs
  intro i h1 h2
  have := he i
  simpa [Act.eval, Array.getD, h1, h2] using this
 rw [this]
theorem sizeQ_put (a : Act) (d : Option Tmp) (v : Value) : (a.put d v).tmps.size = a.tmps.size := by cases d <;> simp [Act.put]
theorem defersQ_put (a : Act) (d : Option Tmp) (v : Value) : (a.put d v).defers = a.defers := by cases d <;> rfl
/-- Slots laid one behind the other. -/
def putsQ : List (Nat × Value) → Act → Act
 | [], a => a
 | (t, v) :: l, a => putsQ l (a.put (some t) v)
/-- A frame that differs in these slots alone is the frame in which they are laid. -/
theorem putsQ_is : ∀ (l : List Nat) (a a' : Act), (∀ t ∈ l, t < a.tmps.size) → l.Nodup → a'.tmps.size = a.tmps.size → a'.defers = a.defers → (∀ t, t ∉ l → a'.eval (.tmp t) = a.eval (.tmp t)) → a' = putsQ (l.map fun t => (t, a'.eval (.tmp t))) a
 | [], a, a', _, _, hs, hd, he => actQ_ext hs hd (fun t => he t (by simp))
 | t :: l, a, a', hl, hn, hs, hd, he => by
  have hn' := List.nodup_cons.1 hn
  show a' = putsQ (l.map fun t => (t, a'.eval (.tmp t))) (a.put (some t) (a'.eval (.tmp t)))
  refine putsQ_is l _ a' (fun u hu => by rw [sizeQ_put]; exact hl u (List.mem_cons_of_mem _ hu)) hn'.2 (by rw [sizeQ_put]; exact hs) (by rw [defersQ_put]; exact hd) (fun u hu => ?_)
  by_cases e : u = t
  ·subst e
   rw [Act.eval_put_same _ _ _ (hl u List.mem_cons_self)]
  ·rw [Act.eval_put_ne _ _ _ _ (Ne.symm e)]
   exact he u (fun q => by rcases List.mem_cons.1 q with q | q; exact e q; exact hu q)
end Go.Proofs.YtiadbiiiikhfaaaGreatDoor

namespace Go.Proofs.YtiadbiiiikhfaaaGreatDoor
open Go.RowKit

theorem own_kept {w w' : World} {B : Nat} {e : TypeId} {m n : Nat} {F : Nat → Int} {v : Value} (h : Own w B e m n F v) (hb : ∀ k, v.ownBlock = some k → w'.heap[k]? = w.heap[k]?) : Own w' B e m n F v := by
 refine ⟨h.1, ?_⟩
 rcases h.2 with q | ⟨g, cap, cur, rfl, hg, hw, r⟩
 ·exact Or.inl q
 ·exact Or.inr ⟨g, cap, cur, rfl, hg, (hb g rfl).trans hw, r⟩
theorem own_blk {w : World} {B : Nat} {e : TypeId} {m n : Nat} {F : Nat → Int} {v : Value} (h : Own w B e m n F v) : ∀ k, v.ownBlock = some k → B ≤ k ∧ k < w.heap.size := by
 intro k hk
 rcases h.2 with ⟨rfl, _⟩ | ⟨g, cap, cur, rfl, hg, hw, _⟩
 ·simp [Value.ownBlock] at hk
 ·simp [Value.ownBlock] at hk
  subst hk
  exact ⟨hg, (Array.getElem?_eq_some_iff.1 hw).1⟩
theorem own_cap {w : World} {B : Nat} {e : TypeId} {m n : Nat} {F : Nat → Int} {ao : Option Addr} {cp : Nat} (h : Own w B e m n F (.slice ao n cp)) : n ≤ cp := by
 rcases h.2 with ⟨q, q'⟩ | ⟨g, cap, cur, q, _, _, hnc, _⟩
 ·omega
 ·cases q; exact hnc
theorem own_far {w : World} {B : Nat} {e : TypeId} {m n : Nat} {F : Nat → Int} {v : Value} (h : Own w B e m n F v) {a : Addr} (ha : a.block < B) (u : Value) : Own (w.setCell a u) B e m n F v :=
 own_kept h fun k hk => Below.heap_setCell w a u k (fun e => by have := (own_blk h k hk).1; omega)
theorem own_congr {w : World} {B : Nat} {e : TypeId} {m n : Nat} {F G : Nat → Int} {v : Value} (h : Own w B e m n F v) (hF : ∀ p, p < n * m → F p = G p) : Own w B e m n G v := by
 have hv : vals F (n * m) = vals G (n * m) := by
  apply List.ext_getElem?
  intro p
  rcases Nat.lt_or_ge p (n * m) with q | q
  ·rw [vals_at _ _ _ q, vals_at _ _ _ q, hF p q]
  ·rw [List.getElem?_eq_none (by rw [vals_length]; exact q), List.getElem?_eq_none (by rw [vals_length]; exact q)]
 unfold Own at h ⊢
 rwa [← hv]
/-- A store whose three rows are its own: rows to which one may append. -/
def ApartB (u0 u1 u2 : Value) : Prop := (∀ k, u0.ownBlock = some k → u1.ownBlock ≠ some k) ∧ (∀ k, u0.ownBlock = some k → u2.ownBlock ≠ some k) ∧ ∀ k, u1.ownBlock = some k → u2.ownBlock ≠ some k
def OwnS (w : World) (B : Nat) (S : Sto) (v0 v1 v2 : Value) : Prop := (Own w B 93 3 S.nc S.c v0 ∧ Own w B 40 5 S.nl S.l v1 ∧ Own w B 55 4 S.nw S.k v2) ∧ ApartB v0 v1 v2
theorem OwnS.st {w : World} {B : Nat} {S : Sto} {v0 v1 v2 : Value} (h : OwnS w B S v0 v1 v2) : St w B S v0 v1 v2 := ⟨h.1.1.row.1, h.1.2.1.row.1, h.1.2.2.row.1⟩
theorem OwnS.free {w : World} {B : Nat} {S : Sto} {v0 v1 v2 : Value} (h : OwnS w B S v0 v1 v2) : FreeS w S v0 v1 v2 := ⟨h.1.1.row.2, h.1.2.1.row.2, h.1.2.2.row.2⟩
theorem OwnS.later {w w' : World} {B : Nat} {S : Sto} {v0 v1 v2 : Value} (h : OwnS w B S v0 v1 v2) (hb : Below w.heap.size w w') : OwnS w' B S v0 v1 v2 := ⟨⟨h.1.1.later hb, h.1.2.1.later hb, h.1.2.2.later hb⟩, h.2⟩
theorem OwnS.mono {w : World} {B B' : Nat} {S : Sto} {v0 v1 v2 : Value} (h : OwnS w B S v0 v1 v2) (hB : B' ≤ B) : OwnS w B' S v0 v1 v2 := ⟨⟨h.1.1.mono hB, h.1.2.1.mono hB, h.1.2.2.mono hB⟩, h.2⟩
theorem OwnS.far {w : World} {B : Nat} {S : Sto} {v0 v1 v2 : Value} (h : OwnS w B S v0 v1 v2) {a : Addr} (ha : a.block < B) (u : Value) : OwnS (w.setCell a u) B S v0 v1 v2 := ⟨⟨own_far h.1.1 ha u, own_far h.1.2.1 ha u, own_far h.1.2.2 ha u⟩, h.2⟩
theorem own_some {w : World} {B : Nat} {e : TypeId} {m n : Nat} {F : Nat → Int} {v : Value} (h : Own w B e m n F v) (hn : 0 < n) : ∃ k, v.ownBlock = some k := by
 rcases h.2 with ⟨_, q⟩ | ⟨g, cap, cur, rfl, _⟩
 ·omega
 ·exact ⟨g, rfl⟩
theorem OwnS.apart {w : World} {B : Nat} {S : Sto} {v0 v1 v2 : Value} (h : OwnS w B S v0 v1 v2) : ApartD S v0 v1 v2 := by
 refine ⟨fun a _ e => ?_, fun a _ e => ?_, fun a _ e => ?_⟩
 ·obtain ⟨k, hk⟩ := own_some h.1.1 a
  exact h.2.1 k hk (e ▸ hk)
 ·obtain ⟨k, hk⟩ := own_some h.1.1 a
  exact h.2.2.1 k hk (e ▸ hk)
 ·obtain ⟨k, hk⟩ := own_some h.1.2.1 a
  exact h.2.2.2 k hk (e ▸ hk)
theorem OwnS.all {w : World} {B : Nat} {S : Sto} {v0 v1 v2 : Value} (h : OwnS w B S v0 v1 v2) : St w B S v0 v1 v2 ∧ FreeS w S v0 v1 v2 ∧ ApartD S v0 v1 v2 := ⟨h.st, h.free, h.apart⟩
theorem OwnS.empty (w : World) (B : Nat) : OwnS w B emptyS (.slice none 0 0) (.slice none 0 0) (.slice none 0 0) := ⟨⟨Own.nil _ _ _ _ _, Own.nil _ _ _ _ _, Own.nil _ _ _ _ _⟩, fun k hk => by simp [Value.ownBlock] at hk, fun k hk => by simp [Value.ownBlock] at hk, fun k hk => by simp [Value.ownBlock] at hk⟩
/-- A call that answers a code and a store of its own. -/
def ResStoK (w : World) (c : Int) (R : Sto) (e : Ending) (w' : World) : Prop := ∃ a0 c0 a1 c1 a2 c2, e = .returned (.agg #[.int .i64 c, .slice a0 R.nc c0, .slice a1 R.nl c1, .slice a2 R.nw c2]) ∧ OwnS w' w.heap.size R (.slice a0 R.nc c0) (.slice a1 R.nl c1) (.slice a2 R.nw c2) ∧ Below w.heap.size w w'
theorem ResStoK.res {w : World} {c : Int} {R : Sto} {e : Ending} {w' : World} (h : ResStoK w c R e w') : ResSto w c R e w' := by
 obtain ⟨a0, c0, a1, c1, a2, c2, he, ho, hb⟩ := h
 exact ⟨a0, c0, a1, c1, a2, c2, he, ho.all, hb⟩
set_option maxRecDepth 100000 in
theorem l3Bad_own (c : Int) (w : World) : Calls Tryz.prog 41 #[.int .i64 c] w (ResStoK w c emptyS) := by
 unfold ResStoK
 go_enter Tryz.func41, Tryz.ntmps41
 go_wp2
 exact bodyPost_ret (v := .agg #[.int .i64 c, .slice none 0 0, .slice none 0 0, .slice none 0 0]) (by simp [results, Tryz.results41, go_sem]) rfl ⟨none, 0, none, 0, none, 0, rfl, OwnS.empty _ _, below_alloc _ _⟩
theorem run_onto (t ty e : TypeId) (i : TypeInfo) (z : Value) (m bytes : Nat) (ht : Tryz.prog.underlying t = some (.slice e)) (hi : Tryz.prog.info? e = some i) (hz : i.zero = some z) (hsize : i.size = m) (hby : i.bytes = bytes) (hzs : z.cells.size = m) (hm : 0 < m) (hb5 : bytes ≤ 1000)
  (w : World) (q B n : Nat) (F : Nat → Int) (v : Value) (h0 : w.heap[q]? = some (.cells #[] e)) (h : Row w B m n F v) (hn : n ≤ 1048576) :
  ∃ ao cp w', (Builtin.append_ #[t, t] ty #[.slice (some ⟨q, 0, none⟩) 0 0, v]).run Tryz.prog w = .ok (.slice ao n cp) w' ∧ Own w' q e m n F (.slice ao n cp) ∧ (∀ k, (Value.slice ao n cp).ownBlock = some k → (k = q ∨ w.heap.size ≤ k) ∧ k < w'.heap.size) ∧ w.grownBy w' (some q) := by
 have hq : q < w.heap.size := (Array.getElem?_eq_some_iff.1 h0).1
 have hown : w.ownsRow q e m (.slice (some ⟨q, 0, none⟩) 0 0) 0 [] := ⟨by simp, Or.inr ⟨q, 0, #[], rfl, Nat.le_refl _, h0, Nat.le_refl _, by decide, by simp, by simp⟩⟩
 have hbb : n * bytes ≤ 1048576 * 1000 := Nat.mul_le_mul hn hb5
 obtain ⟨ao, cp, rfl⟩ := h.form
 rcases Nat.eq_zero_or_pos n with e0 | e0
 ·subst e0
  have ho : Own w q e m 0 F (.slice (some ⟨q, 0, none⟩) 0 0) := by
   unfold Own
   rw [Nat.zero_mul]
   exact hown
  refine ⟨some ⟨q, 0, none⟩, 0, w, ?_, ho, fun k hk => ?_, ⟨rfl, rfl, rfl, Nat.le_refl _, fun _ _ _ => rfl⟩⟩
  ·cases ao with
   | none => simp [Builtin.append_, run_underlying ht, sizeOf, typeInfo, hi, Builtin.lenOf, Builtin.firstCells, storeCells]
   | some a => simp [Builtin.append_, run_underlying ht, sizeOf, typeInfo, hi, Builtin.lenOf, Builtin.firstCells, storeCells, loadCells, loadCellsFrom]
  ·simp [Value.ownBlock] at hk
   subst hk
   exact ⟨Or.inl rfl, hq⟩
 ·obtain ⟨g, o, rfl, _, _, _⟩ := h.at e0
  obtain ⟨b, cap, w', h1, h2, h3, h4, h5⟩ := run_append_lies (P := Tryz.prog) w t ty q e i z m bytes ht hi hz hsize hby hzs hm _ 0 [] hown ⟨g, o, none⟩ n cp (vals F (n * m)) (vals_length _ _) (row_cells h) (vals_one _ _) e0 (by unfold maxLen; omega) (by rw [Nat.zero_add]; omega) (Nat.le_of_lt hq) w.heap.size rfl
  rw [Nat.zero_add] at h1 h2
  refine ⟨_, _, w', h1, h2, fun k hk => ?_, h3⟩
  simp [Value.ownBlock] at hk
  subst hk
  refine ⟨?_, h5⟩
  rcases h4 with e | e
  ·simp [Value.ownBlock] at e; exact Or.inl e.symm
  ·exact Or.inr (by omega)
/-- An empty row in a block of its own. -/
def Em (c : World) (q : Nat) (e : TypeId) : Prop := c.heap[q]? = some (.cells #[] e)
theorem Em.lt {c : World} {q : Nat} {e : TypeId} (h : Em c q e) : q < c.heap.size := (Array.getElem?_eq_some_iff.1 h).1
theorem Em.grown {c c' : World} {q q' : Nat} {e : TypeId} (h : Em c q e) (hg : c.grownBy c' (some q')) (hne : q ≠ q') : Em c' q e := (hg.block q h.lt (by simp; exact hne)).trans h
theorem Em.later {c c' : World} {q : Nat} {e : TypeId} (h : Em c q e) (hb : Below c.heap.size c c') : Em c' q e := (hb.block q h.lt).trans h
theorem Em.new (c : World) (e : TypeId) : Em (c.alloc (.cells #[] e)) c.heap.size e := heap_alloc_new c _
/-- What the copying region stands on. -/
def Cp (w : World) (v0 v1 v2 : Value) (c : World) : Prop := Blk3 c w.heap.size v0 v1 v2 ∧ Below w.heap.size w c
theorem Cp.grown {w c c' : World} {v0 v1 v2 : Value} {q : Nat} (h : Cp w v0 v1 v2 c) (hg : c.grownBy c' (some q)) (hq : w.heap.size + 2 ≤ q) : Cp w v0 v1 v2 c' := ⟨h.1.kept (hg.block w.heap.size h.1.lt (by simp; omega)), ⟨hg.os.trans h.2.os, hg.tape.trans h.2.tape, hg.output.trans h.2.output, Nat.le_trans h.2.size hg.size, fun i hi => (hg.block i (Nat.lt_of_lt_of_le hi h.2.size) (by simp; omega)).trans (h.2.block i hi)⟩⟩
theorem Cp.later {w c c' : World} {v0 v1 v2 : Value} (h : Cp w v0 v1 v2 c) (hb : Below c.heap.size c c') : Cp w v0 v1 v2 c' := ⟨h.1.later hb, h.2.trans (hb.mono h.2.size)⟩
theorem Blk3.grown {c c' : World} {b q : Nat} {a0 a1 a2 : Value} (h : Blk3 c b a0 a1 a2) (hg : c.grownBy c' (some q)) (hne : b ≠ q) : Blk3 c' b a0 a1 a2 := h.kept (hg.block b h.lt (by simp; exact hne))
/-- A new store whose rows are its own. -/
def NewStoK (w : World) (R : Sto) (e : Ending) (w' : World) : Prop := ∃ a0 c0 a1 c1 a2 c2, e = .returned (.agg #[.slice a0 R.nc c0, .slice a1 R.nl c1, .slice a2 R.nw c2]) ∧ OwnS w' w.heap.size R (.slice a0 R.nc c0) (.slice a1 R.nl c1) (.slice a2 R.nw c2) ∧ Below w.heap.size w w'
def tyC : Nat → TypeId
 | 0 => 93
 | 1 => 40
 | _ => 55
def msC : Nat → Nat
 | 0 => 3
 | 1 => 5
 | _ => 4
def ApaC (u v : Value) : Prop := ∀ q, u.ownBlock = some q → v.ownBlock ≠ some q
theorem ApaC.symm {u v : Value} (h : ApaC u v) : ApaC v u := fun q h1 h2 => h q h2 h1
/-- Where the region stands: A: which empty rows are laid, k: how many rows are copied. -/
structure ZC (W0 : World) (a0 : Act) (N : Nat → Nat) (F : Nat → Nat → Int) (A : List Bool) (e : Bool) (k : Nat) (a : Act) (x : World) : Prop where
 one : e = true
 size : a.tmps.size = a0.tmps.size
 defers : a.defers = a0.defers
 rest : ∀ t : Nat, (∀ i : Nat, i < 3 → t ≠ 3 + 4 * i ∧ t ≠ 6 + 4 * i) → a.eval (.tmp t) = a0.eval (.tmp t)
 below : Below W0.heap.size W0 x
 alen : A.length = 3
 kle : k ≤ 3
 got : ∀ i, i < k → A.getD i false = true
 laid : ∀ i, i < 3 → k ≤ i → A.getD i false = true → ∃ q, a.eval (.tmp (3 + 4 * i)) = .slice (some ⟨q, 0, none⟩) 0 0 ∧ Em x q (tyC i) ∧ W0.heap.size ≤ q
 done : ∀ i, i < k → ∃ ao cp, a.eval (.tmp (6 + 4 * i)) = .slice ao (N i) cp ∧ Own x W0.heap.size (tyC i) (msC i) (N i) (F i) (.slice ao (N i) cp)
 apL : ∀ i j, i < 3 → j < 3 → i ≠ j → k ≤ i → k ≤ j → A.getD i false = true → A.getD j false = true → ApaC (a.eval (.tmp (3 + 4 * i))) (a.eval (.tmp (3 + 4 * j)))
 apM : ∀ i j, i < k → k ≤ j → j < 3 → A.getD j false = true → ApaC (a.eval (.tmp (6 + 4 * i))) (a.eval (.tmp (3 + 4 * j)))
 apD : ∀ i j, i < j → j < k → ApaC (a.eval (.tmp (6 + 4 * i))) (a.eval (.tmp (6 + 4 * j)))
theorem setC_self {A : List Bool} {i : Nat} (h : i < A.length) (d : Bool) : (A.set i true).getD i d = true := by
 simp [List.getD_eq_getElem?_getD, h]
theorem setC_off {A : List Bool} {i j : Nat} (h : i ≠ j) (d : Bool) : (A.set i true).getD j d = A.getD j d := by
 simp [List.getD_eq_getElem?_getD, List.getElem?_set_ne h]
section
variable {W0 : World} {a0 : Act} {N : Nat → Nat} {F : Nat → Nat → Int} {A : List Bool} {e : Bool} {k : Nat} {a : Act} {x : World}
theorem ZC.lay (h : ZC W0 a0 N F A e k a x) (hs : 15 ≤ a0.tmps.size) {i : Nat} (hi : i < 3) : ZC W0 a0 N F (A.set i true) e k (a.put (some (3 + 4 * i)) (.slice (some ⟨x.heap.size, 0, none⟩) 0 0)) (x.alloc (.cells #[] (tyC i))) where
 one := h.one
 size := by rw [sizeQ_put]; exact h.size
 defers := by rw [defersQ_put]; exact h.defers
 rest := fun u hu => by rw [Act.eval_put_ne _ _ _ _ (Ne.symm (hu i hi).1)]; exact h.rest u hu
 below := h.below.alloc h.below.size _
 alen := by rw [List.length_set]; exact h.alen
 kle := h.kle
 got := fun j hj => by
  by_cases q : i = j
  ·subst q; exact setC_self (by rw [h.alen]; exact hi) _
  ·rw [setC_off q]; exact h.got j hj
 laid := fun j hj hkj hA => by
  by_cases q : i = j
  ·subst q
   exact ⟨x.heap.size, Act.eval_put_same _ _ _ (by rw [h.size]; omega), Em.new _ _, h.below.size⟩
  ·rw [setC_off q] at hA
   obtain ⟨g, e1, e2, e3⟩ := h.laid j hj hkj hA
   exact ⟨g, by rw [Act.eval_put_ne _ _ _ _ (by omega)]; exact e1, e2.later (below_alloc _ _), e3⟩
 done := fun j hj => by
  obtain ⟨ao, cp, e1, e2⟩ := h.done j hj
  exact ⟨ao, cp, by rw [Act.eval_put_ne _ _ _ _ (by omega)]; exact e1, e2.alloc _⟩
 apL := fun j l hj hl hjl hkj hkl hA hB => by
  have key : ∀ m, m < 3 → i ≠ m → k ≤ m → (A.set i true).getD m false = true → ∀ q, (a.eval (.tmp (3 + 4 * m))).ownBlock = some q → q < x.heap.size := fun m hm him hkm hAm q hq => by
   rw [setC_off him] at hAm
   obtain ⟨g, e1, e2, _⟩ := h.laid m hm hkm hAm
   rw [e1] at hq
   cases hq
   exact e2.lt
  by_cases q : i = j
  ·subst q
   rw [Act.eval_put_same _ _ _ (by rw [h.size]; omega), Act.eval_put_ne _ _ _ _ (by omega)]
   intro q h1 h2
   cases h1
   exact absurd (key l hl hjl hkl hB _ h2) (Nat.lt_irrefl _)
  ·by_cases q2 : i = l
   ·subst q2
    rw [Act.eval_put_ne _ _ _ _ (by omega), Act.eval_put_same _ _ _ (by rw [h.size]; omega)]
    intro q h1 h2
    cases h2
    exact absurd (key j hj (Ne.symm hjl) hkj hA _ h1) (Nat.lt_irrefl _)
   ·rw [Act.eval_put_ne _ _ _ _ (by omega), Act.eval_put_ne _ _ _ _ (by omega)]
    rw [setC_off q] at hA
    rw [setC_off q2] at hB
    exact h.apL j l hj hl hjl hkj hkl hA hB
 apM := fun j l hj hkl hl hB => by
  rw [Act.eval_put_ne _ _ _ _ (by omega : (3 + 4 * i : Nat) ≠ 6 + 4 * j)]
  by_cases q : i = l
  ·subst q
   rw [Act.eval_put_same _ _ _ (by rw [h.size]; omega)]
   intro q h1 h2
   cases h2
   obtain ⟨ao, cp, e1, e2⟩ := h.done j hj
   rw [e1] at h1
   exact absurd (own_blk e2 _ h1).2 (Nat.lt_irrefl _)
  ·rw [Act.eval_put_ne _ _ _ _ (by omega)]
   rw [setC_off q] at hB
   exact h.apM j l hj hkl hl hB
 apD := fun j l hjl hl => by
  rw [Act.eval_put_ne _ _ _ _ (by omega), Act.eval_put_ne _ _ _ _ (by omega)]
  exact h.apD j l hjl hl
theorem ZC.call (h : ZC W0 a0 N F A e k a x) (hs : 15 ≤ a0.tmps.size) (hk : k < 3) (hA : A.getD k false = true) {x' : World} {q cp : Nat} {ao : Option Addr} (hq : a.eval (.tmp (3 + 4 * k)) = .slice (some ⟨q, 0, none⟩) 0 0) (hq0 : W0.heap.size ≤ q) (hqx : q < x.heap.size) (ho : Own x' q (tyC k) (msC k) (N k) (F k) (.slice ao (N k) cp)) (hb : ∀ b, (Value.slice ao (N k) cp).ownBlock = some b → (b = q ∨ x.heap.size ≤ b) ∧ b < x'.heap.size) (hg : x.grownBy x' (some q)) :
  ZC W0 a0 N F A e (k + 1) (a.put (some (6 + 4 * k)) (.slice ao (N k) cp)) x' where
 one := h.one
 size := by rw [sizeQ_put]; exact h.size
 defers := by rw [defersQ_put]; exact h.defers
 rest := fun u hu => by rw [Act.eval_put_ne _ _ _ _ (Ne.symm (hu k hk).2)]; exact h.rest u hu
 below := h.below.grown hg h.below.size (fun b e => by cases e; exact hq0)
 alen := h.alen
 kle := hk
 got := fun j hj => by
  by_cases q : j = k
  ·subst q; exact hA
  ·exact h.got j (by omega)
 laid := fun j hj hkj hB => by
  obtain ⟨g, e1, e2, e3⟩ := h.laid j hj (by omega) hB
  have hne : g ≠ q := fun r => by
   subst r
   have := h.apL k j hk hj (by omega) (Nat.le_refl _) (by omega) hA hB
   rw [hq, e1] at this
   exact this g rfl rfl
  exact ⟨g, by rw [Act.eval_put_ne _ _ _ _ (by omega)]; exact e1, e2.grown hg hne, e3⟩
 done := fun j hj => by
  by_cases r : j = k
  ·subst r
   exact ⟨ao, cp, Act.eval_put_same _ _ _ (by rw [h.size]; omega), ho.mono hq0⟩
  ·obtain ⟨ao', cp', e1, e2⟩ := h.done j (by omega)
   refine ⟨ao', cp', by rw [Act.eval_put_ne _ _ _ _ (by omega)]; exact e1, own_kept e2 (fun b hb' => hg.block b (own_blk e2 b hb').2 (fun r => ?_))⟩
   cases r
   have := h.apM j k (by omega) (Nat.le_refl _) hk hA
   rw [e1, hq] at this
   exact this q hb' rfl
 apL := fun i j hi hj hij hki hkj hB hC => by
  rw [Act.eval_put_ne _ _ _ _ (by omega), Act.eval_put_ne _ _ _ _ (by omega)]
  exact h.apL i j hi hj hij (by omega) (by omega) hB hC
 apM := fun i j hi hkj hj hB => by
  rw [Act.eval_put_ne _ _ _ _ (by omega : (6 + 4 * k : Nat) ≠ 3 + 4 * j)]
  obtain ⟨g, e1, e2, _⟩ := h.laid j hj (by omega) hB
  by_cases r : i = k
  ·subst r
   rw [Act.eval_put_same _ _ _ (by rw [h.size]; omega)]
   intro b h1 h2
   have hap := h.apL i j hk hj (by omega) (Nat.le_refl _) (by omega) hA hB
   rw [hq, e1] at hap
   rw [e1] at h2
   cases h2
   rcases (hb g h1).1 with w1 | w1
   ·exact hap g (by rw [w1]; rfl) rfl
   ·exact absurd e2.lt (by omega)
  ·rw [Act.eval_put_ne _ _ _ _ (by omega)]
   exact h.apM i j (by omega) (by omega) hj hB
 apD := fun i j hij hj => by
  rw [Act.eval_put_ne _ _ _ _ (by omega : (6 + 4 * k : Nat) ≠ 6 + 4 * i)]
  by_cases r : j = k
  ·subst r
   rw [Act.eval_put_same _ _ _ (by rw [h.size]; omega)]
   obtain ⟨ao', cp', e1, e2⟩ := h.done i hij
   intro b h1 h2
   have hap := h.apM i j hij (Nat.le_refl _) hk hA
   rw [hq] at hap
   rcases (hb b h2).1 with w1 | w1
   ·exact hap b h1 (by rw [w1]; rfl)
   ·rw [e1] at h1
    exact absurd (own_blk e2 b h1).2 (by omega)
  ·rw [Act.eval_put_ne _ _ _ _ (by omega)]
   exact h.apD i j hij (by omega)
end
theorem ZC.start {W0 : World} {a0 : Act} {N : Nat → Nat} {F : Nat → Nat → Int} : ZC W0 a0 N F [false, false, false] true 0 a0 W0 where
 one := rfl
 size := rfl
 defers := rfl
 rest := fun _ _ => rfl
 below := Below.refl _ _
 alen := rfl
 kle := Nat.zero_le _
 got := fun _ h => absurd h (Nat.not_lt_zero _)
 laid := fun i hi _ hA => by
  match i, hi with
  | 0, _ => cases hA
  | 1, _ => cases hA
  | 2, _ => cases hA
 done := fun _ h => absurd h (Nat.not_lt_zero _)
 apL := fun i _ hi _ _ _ _ hA _ => by
  match i, hi with
  | 0, _ => cases hA
  | 1, _ => cases hA
  | 2, _ => cases hA
 apM := fun _ _ h _ _ _ => absurd h (Nat.not_lt_zero _)
 apD := fun _ _ _ h => absurd h (Nat.not_lt_zero _)
/-- 'append([]T{}, row...)' at an operation. -/
theorem wp_onto {o : Oper} {d : Nat} {a : Act} {K : Act → World → Prop} {Q : Exit → Act → World → Prop} (s x : Operand) (t : TypeId) (ho : o.op = .call { callee := .builtin .append, args := #[s, x], argTypes := #[t, t] }) (hd : o.dst = some d)
  (e : TypeId) (i : TypeInfo) (z : Value) (m bytes : Nat) (ht : Tryz.prog.underlying t = some (.slice e)) (hi : Tryz.prog.info? e = some i) (hz : i.zero = some z) (hsize : i.size = m) (hby : i.bytes = bytes) (hzs : z.cells.size = m) (hm : 0 < m) (hb5 : bytes ≤ 1000)
  (w : World) (q B n : Nat) (F : Nat → Int) (v : Value) (hs : a.eval s = .slice (some ⟨q, 0, none⟩) 0 0) (hx : a.eval x = v) (h0 : w.heap[q]? = some (.cells #[] e)) (h : Row w B m n F v) (hn : n ≤ 1048576)
  (hK : ∀ ao cp w', Own w' q e m n F (.slice ao n cp) → (∀ k, (Value.slice ao n cp).ownBlock = some k → (k = q ∨ w.heap.size ≤ k) ∧ k < w'.heap.size) → w.grownBy w' (some q) → K (a.put (some d) (.slice ao n cp)) w') : Oper.wp Tryz.prog o a w K Q := by
 obtain ⟨ao, cp, w', hr, h2, h3, h4⟩ := run_onto t o.type e i z m bytes ht hi hz hsize hby hzs hm hb5 w q B n F v h0 h hn
 unfold Oper.wp execOp
 simp only [ho, resolve, invoke, builtin, Sem.run_bind, Sem.run_pure, Result.andThen_ok, List.map_toArray, List.map_cons, List.map_nil, hs, hx, hr]
 show K (a.put o.dst (.slice ao n cp)) w'
 rw [hd]
 exact hK ao cp w' h2 h3 h4
theorem run_noCell (w : World) : (Instr.buildSlice 24 0 #[]).run Tryz.prog w = .ok (.slice (some ⟨w.heap.size, 0, none⟩) 0 0) (w.alloc (.cells #[] 93)) := by
 first | kernel_rfl | rfl | go_simp
theorem wp_noCell {o : Oper} {d : Nat} {a : Act} {w : World} {K : Act → World → Prop} {Q : Exit → Act → World → Prop} (hop : o.op = .buildSlice 24 0 #[]) (hd : o.dst = some d) (h : K (a.put (some d) (.slice (some ⟨w.heap.size, 0, none⟩) 0 0)) (w.alloc (.cells #[] 93))) : Oper.wp Tryz.prog o a w K Q := by
 unfold Oper.wp execOp
 simp only [hop, List.map_toArray, List.map_nil, Sem.run_bind, run_noCell, Result.andThen_ok, Sem.run_pure]
 show K (a.put o.dst _) _
 rw [hd]
 exact h
theorem run_noLock (w : World) : (Instr.buildSlice 25 0 #[]).run Tryz.prog w = .ok (.slice (some ⟨w.heap.size, 0, none⟩) 0 0) (w.alloc (.cells #[] 40)) := by
 first | kernel_rfl | rfl | go_simp
theorem wp_noLock {o : Oper} {d : Nat} {a : Act} {w : World} {K : Act → World → Prop} {Q : Exit → Act → World → Prop} (hop : o.op = .buildSlice 25 0 #[]) (hd : o.dst = some d) (h : K (a.put (some d) (.slice (some ⟨w.heap.size, 0, none⟩) 0 0)) (w.alloc (.cells #[] 40))) : Oper.wp Tryz.prog o a w K Q := by
 unfold Oper.wp execOp
 simp only [hop, List.map_toArray, List.map_nil, Sem.run_bind, run_noLock, Result.andThen_ok, Sem.run_pure]
 show K (a.put o.dst _) _
 rw [hd]
 exact h
theorem run_noWrite (w : World) : (Instr.buildSlice 26 0 #[]).run Tryz.prog w = .ok (.slice (some ⟨w.heap.size, 0, none⟩) 0 0) (w.alloc (.cells #[] 55)) := by
 first | kernel_rfl | rfl | go_simp
theorem wp_noWrite {o : Oper} {d : Nat} {a : Act} {w : World} {K : Act → World → Prop} {Q : Exit → Act → World → Prop} (hop : o.op = .buildSlice 26 0 #[]) (hd : o.dst = some d) (h : K (a.put (some d) (.slice (some ⟨w.heap.size, 0, none⟩) 0 0)) (w.alloc (.cells #[] 55))) : Oper.wp Tryz.prog o a w K Q := by
 unfold Oper.wp execOp
 simp only [hop, List.map_toArray, List.map_nil, Sem.run_bind, run_noWrite, Result.andThen_ok, Sem.run_pure]
 show K (a.put o.dst _) _
 rw [hd]
 exact h
theorem wpAnyH_atC {P : Program} {md : Region.Mode} {ops : Array Oper} {Q : Exit → Act → World → Prop} {S : World → Prop} {n n' : Nat} {L L' : Array Bool} {a : Act} {w : World} (hn : n = n') (hL : L = L') (h : wpAnyH P md ops Q S n' L' a w) : wpAnyH P md ops Q S n L a w := by
 subst hn hL; exact h
/-- The copying region, in whatever order. -/
theorem wpAnyH_copies {ops : Array Oper} {Q : Exit → Act → World → Prop} {S : World → Prop} {L : Array Bool} {a : Act} {W : World} (f : Nat) (N : Nat → Nat) (F : Nat → Nat → Int) (hsz : 15 ≤ a.tmps.size)
  (hchk : chkQ .any ops 3 (fun i => 4 * i) (fun i => 3 + 4 * i) 1 L = true) (hL : L = L.setIfInBounds 1 true)
  (hlit : ∀ i, i < 3 → ∃ o, ops[4 * i]? = some o ∧ o.guard = none ∧ ∀ (b : Act) (x : World) (K : Act → World → Prop), K (b.put (some (3 + 4 * i)) (.slice (some ⟨x.heap.size, 0, none⟩) 0 0)) (x.alloc (.cells #[] (tyC i))) → Oper.wp Tryz.prog o b x K Q)
  (hcall : ∀ k, k < 3 → ∃ o, ops[3 + 4 * k]? = some o ∧ o.guard = none ∧ ∀ (b : Act) (x : World) (q : Nat) (K : Act → World → Prop), b.eval (.tmp (3 + 4 * k)) = .slice (some ⟨q, 0, none⟩) 0 0 → b.eval (.tmp (5 + 4 * k)) = a.eval (.tmp (5 + 4 * k)) → Em x q (tyC k) → Below W.heap.size W x → (∀ ao cp x', Own x' q (tyC k) (msC k) (N k) (F k) (.slice ao (N k) cp) → (∀ c, (Value.slice ao (N k) cp).ownBlock = some c → (c = q ∨ x.heap.size ≤ c) ∧ c < x'.heap.size) → x.grownBy x' (some q) → K (b.put (some (6 + 4 * k)) (.slice ao (N k) cp)) x') → Oper.wp Tryz.prog o b x K Q)
  (hS : ∀ x, Below W.heap.size W x → S x)
  (hend : ∀ (p0 p1 p2 : Value) (f0 f1 f2 : Option Addr) (m0 m1 m2 : Nat) (x : World), Below W.heap.size W x →
   (Own x W.heap.size 93 3 (N 0) (F 0) (.slice f0 (N 0) m0) ∧ Own x W.heap.size 40 5 (N 1) (F 1) (.slice f1 (N 1) m1) ∧ Own x W.heap.size 55 4 (N 2) (F 2) (.slice f2 (N 2) m2)) →
   (ApaC (.slice f0 (N 0) m0) (.slice f1 (N 1) m1) ∧ ApaC (.slice f0 (N 0) m0) (.slice f2 (N 2) m2) ∧ ApaC (.slice f1 (N 1) m1) (.slice f2 (N 2) m2)) →
   wpAnyH Tryz.prog .any ops Q S f (mkQ 3 (fun i => 4 * i) (fun i => 3 + 4 * i) 1 L [true, true, true] true 3) (putsQ [(3, p0), (7, p1), (11, p2), (6, .slice f0 (N 0) m0), (10, .slice f1 (N 1) m1), (14, .slice f2 (N 2) m2)] a) x) :
  wpAnyH Tryz.prog .any ops Q S (6 + f) L a W := by
 refine wpAnyH_atC (L' := mkQ 3 (fun i => 4 * i) (fun i => 3 + 4 * i) 1 L [false, false, false] true 0) rfl hL ?_
 refine wpAnyH_concs 3 (fun i => 4 * i) (fun i => 3 + 4 * i) 1 L f (ZC W a N F) hchk (fun A e k b x h => ⟨h.alen, h.kle, h.got⟩) (fun A e k b x h => hS x h.below) ?_ ?_ ?_ ?_ 6 [false, false, false] true 0 a W rfl ZC.start
 ·intro A e k b x i h hi hA
  obtain ⟨o, ho, hg, hwp⟩ := hlit i hi
  exact ⟨o, ho, hg, fun K hK => hwp b x K (hK _ _ (h.lay hsz hi))⟩
 ·intro A e k b x h hk hA
  obtain ⟨o, ho, hg, hwp⟩ := hcall k hk
  obtain ⟨q, e1, e2, e3⟩ := h.laid k hk (Nat.le_refl _) hA
  exact ⟨o, ho, hg, fun K hK => hwp b x q K e1 (h.rest (5 + 4 * k) (fun j hj => ⟨by omega, by omega⟩)) e2 h.below (fun ao cp x' h1 h2 h3 => hK _ _ (h.call hsz hk hA e1 e3 e2.lt h1 h2 h3))⟩
 ·intro A k b x h
  exact absurd h.one (by decide)
 ·intro e b x h
  obtain rfl := h.one
  have hb := putsQ_is [3, 7, 11, 6, 10, 14] a b (fun t ht => by simp at ht; omega) (by decide) h.size h.defers (fun t ht => h.rest t (fun i hi => by
   simp at ht
   match i, hi with
   | 0, _ => omega
   | 1, _ => omega
   | 2, _ => omega))
  obtain ⟨f0, m0, d0, o0⟩ := h.done 0 (by omega)
  obtain ⟨f1, m1, d1, o1⟩ := h.done 1 (by omega)
  obtain ⟨f2, m2, d2, o2⟩ := h.done 2 (by omega)
  have a01 := h.apD 0 1 (by omega) (by omega)
  have a02 := h.apD 0 2 (by omega) (by omega)
  have a12 := h.apD 1 2 (by omega) (by omega)
  rw [d0, d1] at a01
  rw [d0, d2] at a02
  rw [d1, d2] at a12
  have hq := hend (b.eval (.tmp 3)) (b.eval (.tmp 7)) (b.eval (.tmp 11)) f0 f1 f2 m0 m1 m2 x h.below ⟨o0, o1, o2⟩ ⟨a01, a02, a12⟩
  rw [← d0, ← d1, ← d2] at hq
  rw [hb]
  exact wpAnyH_atC (by unfold leftQ; simp) rfl hq
set_option maxRecDepth 100000 in
set_option maxHeartbeats 8000000 in
theorem l2Copy_own (S : Sto) (v0 v1 v2 : Value) (B : Nat) (w : World) (h : St w B S v0 v1 v2) (hn : S.nc ≤ 1048576 ∧ S.nl ≤ 1048576 ∧ S.nw ≤ 1048576) :
  Calls Tryz.prog 86 #[.agg #[v0, v1, v2]] w (NewStoK w S) := by
 obtain ⟨a0, c0, a1, c1, a2, c2, rfl, rfl, rfl⟩ := h.form
 have H : Hid (St w B S (.slice a0 S.nc c0) (.slice a1 S.nl c1) (.slice a2 S.nw c2)) := h
 have HN : Hid (S.nc ≤ 1048576 ∧ S.nl ≤ 1048576 ∧ S.nw ≤ 1048576) := hn
 have hCP : Cp w (.slice a0 S.nc c0) (.slice a1 S.nl c1) (.slice a2 S.nw c2) ((w.alloc (.cells #[.slice a0 S.nc c0, .slice a1 S.nl c1, .slice a2 S.nw c2] 28)).alloc (.cells #[.slice none 0 0, .slice none 0 0, .slice none 0 0] 28)).drew := ⟨(Blk3.new w _ _ _ _).alloc _, ((below_alloc _ _).alloc (by simp) _).drew⟩
 have hRB : Blk3 ((w.alloc (.cells #[.slice a0 S.nc c0, .slice a1 S.nl c1, .slice a2 S.nw c2] 28)).alloc (.cells #[.slice none 0 0, .slice none 0 0, .slice none 0 0] 28)).drew (w.heap.size + 1) (.slice none 0 0) (.slice none 0 0) (.slice none 0 0) := by
  have := Blk3.new (w.alloc (.cells #[.slice a0 S.nc c0, .slice a1 S.nl c1, .slice a2 S.nw c2] 28)) (.slice none 0 0) (.slice none 0 0) (.slice none 0 0) 28
  rw [World.size_alloc] at this
  exact this
 have hZ0 : ((w.alloc (.cells #[.slice a0 S.nc c0, .slice a1 S.nl c1, .slice a2 S.nw c2] 28)).alloc (.cells #[.slice none 0 0, .slice none 0 0, .slice none 0 0] 28)).drew.heap.size = w.heap.size + 2 := by simp
 clear h hn
 go_enter Tryz.func86, Tryz.ntmps86
 go_wp2_with fail
 refine wp_region_held_drew (S := Cp w (.slice a0 S.nc c0) (.slice a1 S.nl c1) (.slice a2 S.nw c2)) (by kernel_rfl) hCP (fun hS => ?_)
 generalize ((w.alloc (.cells #[.slice a0 S.nc c0, .slice a1 S.nl c1, .slice a2 S.nw c2] 28)).alloc (.cells #[.slice none 0 0, .slice none 0 0, .slice none 0 0] 28)).drew = y0 at hCP hRB hZ0 hS ⊢
 have RB : Hid (Blk3 y0 (w.heap.size + 1) (.slice none 0 0) (.slice none 0 0) (.slice none 0 0)) := hRB
 have Z0 : Hid (y0.heap.size = w.heap.size + 2) := hZ0
 have CP : Hid (Cp w (.slice a0 S.nc c0) (.slice a1 S.nl c1) (.slice a2 S.nw c2) y0) := hCP
 clear hCP hRB hZ0
 refine tkH 1 ?_ hS (fun wx hx => ?_) ?_; rotate_left
 ·obtain ⟨⟨⟨hx0, hx1, hx2⟩, _⟩, _⟩ := hx; go_simp; try with_reducible rfl
 refine tkH 2 ?_ hS (fun wx hx => ?_) ?_; rotate_left
 ·obtain ⟨⟨⟨hx0, hx1, hx2⟩, _⟩, _⟩ := hx; go_simp; try with_reducible rfl
 refine tkH 5 ?_ hS (fun wx hx => ?_) ?_; rotate_left
 ·obtain ⟨⟨⟨hx0, hx1, hx2⟩, _⟩, _⟩ := hx; go_simp; try with_reducible rfl
 refine tkH 6 ?_ hS (fun wx hx => ?_) ?_; rotate_left
 ·obtain ⟨⟨⟨hx0, hx1, hx2⟩, _⟩, _⟩ := hx; go_simp; try with_reducible rfl
 refine tkH 9 ?_ hS (fun wx hx => ?_) ?_; rotate_left
 ·obtain ⟨⟨⟨hx0, hx1, hx2⟩, _⟩, _⟩ := hx; go_simp; try with_reducible rfl
 refine tkH 10 ?_ hS (fun wx hx => ?_) ?_; rotate_left
 ·obtain ⟨⟨⟨hx0, hx1, hx2⟩, _⟩, _⟩ := hx; go_simp; try with_reducible rfl
 try simp only [Act.put, List.getElem_toArray, List.getElem_cons_zero, List.getElem_cons_succ, List.setIfInBounds_toArray, List.set_cons_succ, List.set_cons_zero]
 clear hS
 refine wpAnyH_copies 2 (fun i => match i with | 0 => S.nc | 1 => S.nl | _ => S.nw) (fun i => match i with | 0 => S.c | 1 => S.l | _ => S.k) (by simp) (by kernel_rfl) (by kernel_rfl) (fun i hi => ?_) (fun i hi => ?_) (fun x hb => CP.out.later hb) ?_
 ·match i, hi with
  | 0, _ => exact ⟨_, rfl, rfl, fun b x K h => wp_noCell rfl rfl h⟩
  | 1, _ => exact ⟨_, rfl, rfl, fun b x K h => wp_noLock rfl rfl h⟩
  | 2, _ => exact ⟨_, rfl, rfl, fun b x K h => wp_noWrite rfl rfl h⟩
 ·match i, hi with
  | 0, _ =>
   obtain ⟨i0, hi0, hz00, hz10, hz20⟩ := info_parts info_Cell
   refine ⟨_, rfl, rfl, fun b x q K e1 e2 hm hb h => ?_⟩
   exact wp_onto _ _ 24 rfl rfl 93 i0 (.agg #[.int .i64 0, .int .i64 0, .int .i64 0]) 3 24 Tryz.underlying24 hi0 hz00 hz10 hz20 rfl (by omega) (by omega) x q B S.nc S.c (.slice a0 S.nc c0) e1 e2 hm (H.out.later (CP.out.2.trans (hb.mono (by rw [Z0.out]; omega)))).1 HN.out.1 h
  | 1, _ =>
   obtain ⟨i0, hi0, hz00, hz10, hz20⟩ := info_parts info_Lock
   refine ⟨_, rfl, rfl, fun b x q K e1 e2 hm hb h => ?_⟩
   exact wp_onto _ _ 25 rfl rfl 40 i0 (.agg #[.int .i64 0, .int .i64 0, .int .i64 0, .int .i64 0, .int .i64 0]) 5 40 Tryz.underlying25 hi0 hz00 hz10 hz20 rfl (by omega) (by omega) x q B S.nl S.l (.slice a1 S.nl c1) e1 e2 hm (H.out.later (CP.out.2.trans (hb.mono (by rw [Z0.out]; omega)))).2.1 HN.out.2.1 h
  | 2, _ =>
   obtain ⟨i0, hi0, hz00, hz10, hz20⟩ := info_parts info_Write
   refine ⟨_, rfl, rfl, fun b x q K e1 e2 hm hb h => ?_⟩
   exact wp_onto _ _ 26 rfl rfl 55 i0 (.agg #[.int .i64 0, .int .i64 0, .int .i64 0, .int .i64 0]) 4 32 Tryz.underlying26 hi0 hz00 hz10 hz20 rfl (by omega) (by omega) x q B S.nw S.k (.slice a2 S.nw c2) e1 e2 hm (H.out.later (CP.out.2.trans (hb.mono (by rw [Z0.out]; omega)))).2.2 HN.out.2.2 h
 ·intro p0 p1 p2 d0 d1 d2 e0 e1 e2 x hb ho ha
  try simp only [putsQ, Act.put, List.setIfInBounds_toArray, List.set_cons_succ, List.set_cons_zero]
  have hS : Cp w (.slice a0 S.nc c0) (.slice a1 S.nl c1) (.slice a2 S.nw c2) x := CP.out.later hb
  have hlo : w.heap.size + 1 < y0.heap.size := by rw [Z0.out]; omega
  have HO : Hid (NewStoK w S (.returned (.agg #[.slice d0 S.nc e0, .slice d1 S.nl e1, .slice d2 S.nw e2])) (((x.setCell ⟨w.heap.size + 1, 0, none⟩ (.slice d0 S.nc e0)).setCell ⟨w.heap.size + 1, 1, none⟩ (.slice d1 S.nl e1)).setCell ⟨w.heap.size + 1, 2, none⟩ (.slice d2 S.nw e2))) :=
   ⟨d0, e0, d1, e1, d2, e2, rfl, ⟨⟨(own_far (own_far (own_far ho.1 (a := ⟨w.heap.size + 1, 0, none⟩) hlo _) (a := ⟨w.heap.size + 1, 1, none⟩) hlo _) (a := ⟨w.heap.size + 1, 2, none⟩) hlo _).mono (by omega), (own_far (own_far (own_far ho.2.1 (a := ⟨w.heap.size + 1, 0, none⟩) hlo _) (a := ⟨w.heap.size + 1, 1, none⟩) hlo _) (a := ⟨w.heap.size + 1, 2, none⟩) hlo _).mono (by omega), (own_far (own_far (own_far ho.2.2 (a := ⟨w.heap.size + 1, 0, none⟩) hlo _) (a := ⟨w.heap.size + 1, 1, none⟩) hlo _) (a := ⟨w.heap.size + 1, 2, none⟩) hlo _).mono (by omega)⟩, ha.1, ha.2.1, ha.2.2⟩, ((hS.2.setCell (Nat.le_succ _) _).setCell (Nat.le_succ _) _).setCell (Nat.le_succ _) _⟩
  have RX : Hid (Blk3 x (w.heap.size + 1) (.slice none 0 0) (.slice none 0 0) (.slice none 0 0)) := RB.out.later hb
  clear ho ha hb hlo CP RB
  refine wpAnyH_atC (n' := 2) (L' := #[true, true, true, true, true, true, true, true, true, true, true, true, false, false]) rfl (by kernel_rfl) ?_
  refine tkH 12 ?_ hS (fun wx hx => ?_) ?_; rotate_left
  ·obtain ⟨⟨⟨hx0, hx1, hx2⟩, _⟩, _⟩ := hx; go_simp; try with_reducible rfl
  refine rdH 13 (fun K hK => ?_)
  obtain ⟨⟨y0', y1', y2'⟩, z0', z1', z2'⟩ := RX.out
  have hS' : Cp w (.slice a0 S.nc c0) (.slice a1 S.nl c1) (.slice a2 S.nw c2) (((x.setCell ⟨w.heap.size + 1, 0, none⟩ (.slice d0 S.nc e0)).setCell ⟨w.heap.size + 1, 1, none⟩ (.slice d1 S.nl e1)).setCell ⟨w.heap.size + 1, 2, none⟩ (.slice d2 S.nw e2)) := ⟨((hS.1.setFar (p := ⟨w.heap.size + 1, 0, none⟩) (by simp) _).setFar (p := ⟨w.heap.size + 1, 1, none⟩) (by simp) _).setFar (p := ⟨w.heap.size + 1, 2, none⟩) (by simp) _, ((hS.2.setCell (Nat.le_succ _) _).setCell (Nat.le_succ _) _).setCell (Nat.le_succ _) _⟩
  go_simp
  refine hK.out _ _ hS' (fun hS => ?_)
  clear hK K hS'
  refine wpAnyH_done (by kernel_rfl) ?_ _
  go_simp
  go_wp2
  exact bodyPost_ret (v := .agg #[.slice d0 S.nc e0, .slice d1 S.nl e1, .slice d2 S.nw e2]) (by simp [results, Tryz.results86, go_sem, y0', y1', y2']) rfl HO.out
end Go.Proofs.YtiadbiiiikhfaaaGreatDoor

