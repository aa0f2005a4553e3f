/-
  Own text, merged of PaiJ, PaiK, ModA, ModB, ModC, SerA, SerB, SerC.
-/
import Derived.Test.YtglcedhkbbckiaaGreatPk9
namespace Go.Proofs.YtglcedhkbbckiaaGreat
open Go.RowKit

/-- The numbers of a list of pairs, as a list. -/
def flatL : Prs → List Int
  | [] => []
  | e :: t => e.1 :: e.2 :: flatL t
theorem flatL_length : ∀ L, (flatL L).length = L.length * 2
  | [] => rfl
  | e :: t => by simp only [flatL, List.length_cons, flatL_length t]; omega
theorem flatL_append : ∀ (L M : Prs), flatL (L ++ M) = flatL L ++ flatL M
  | [], _ => rfl
  | e :: t, M => by simp only [List.cons_append, flatL, flatL_append t M]
theorem flatL_get : ∀ (L : Prs) (p : Nat), (flatL L).getD p 0 = rowL L p
  | [], p => by simp [flatL, rowL]
  | e :: t, 0 => rfl
  | e :: t, 1 => rfl
  | e :: t, p + 2 => by
    simp only [flatL, List.getD_cons_succ]
    rw [flatL_get t p, rowL, rowL, show (p + 2) % 2 = p % 2 by omega, show (p + 2) / 2 = p / 2 + 1 by omega, List.getD_cons_succ]
theorem ownM_own {w : World} {B : Nat} {v : Value} {L : Prs} (h : OwnM w B 148 2 v L.length (flatL L)) : Own w B 148 2 L.length (rowL L) v := own_eqP (h.own (flatL_length L)) fun p _ => flatL_get L p
theorem row_lit2 (w : World) (x0 x1 : Int) (t : TypeId) : Row (w.alloc (.cells #[.int .i64 x0, .int .i64 x1] t)) 0 2 1 (fun p => [x0, x1].getD p 0) (.slice (some ⟨w.heap.size, 0, none⟩) 1 1) := by
  refine ⟨_, _, rfl, fun _ => ⟨w.heap.size, 0, rfl, Nat.zero_le _, by simp, fun p hp => ?_⟩⟩
  rw [Nat.zero_add, World.cell?_alloc_mark]
  match p, hp with
  | 0, _ => rfl
  | 1, _ => rfl
/-- One round of the model's set. -/
def stepS (k x : Int) (q : Prs × Bool) (e : Int × Int) : Prs × Bool :=
  ((if q.2 = false ∧ k ≤ e.1 then q.1 ++ [(k, x)] else q.1) ++ (if e.1 = k then [] else [e]), if k ≤ e.1 then true else q.2)
def accS (L : Prs) (k x : Int) (has : Bool) : Nat → Prs × Bool
  | 0 => ([], !has)
  | i + 1 => stepS k x (accS L k x has i) (L.getD i (0, 0))
/-- What the model's set comes to. -/
def setS (L : Prs) (k x : Int) (has : Bool) : Prs := if (accS L k x has L.length).2 then (accS L k x has L.length).1 else (accS L k x has L.length).1 ++ [(k, x)]
theorem accS_foldl (L : Prs) (k x : Int) (has : Bool) : ∀ i, i ≤ L.length → accS L k x has i = (L.take i).foldl (stepS k x) ([], !has)
  | 0, _ => by simp [accS]
  | i + 1, h => by
    have hg : L.getD i (0, 0) = L[i] := by simp [List.getD, show i < L.length by omega]
    rw [accS, accS_foldl L k x has i (by omega), List.take_succ_eq_append_getElem (by omega), List.foldl_append, hg]
    rfl
theorem fold_done (k x : Int) : ∀ (L o : Prs), L.foldl (stepS k x) (o, true) = (o ++ gonePr L k, true)
  | [], o => by simp [gonePr]
  | e :: t, o => by
    rw [List.foldl_cons]
    have h1 : stepS k x (o, true) e = (o ++ (if e.1 = k then [] else [e]), true) := by simp [stepS]
    rw [h1, fold_done k x t, List.append_assoc]
    congr 2
    unfold gonePr
    by_cases he : e.1 = k
    · rw [if_pos he, List.filter_cons_of_neg (by simp [he])]; rfl
    · rw [if_neg he, List.filter_cons_of_pos (by simp [he])]; rfl
theorem fold_put (k x : Int) : ∀ (L o : Prs), (if (L.foldl (stepS k x) (o, false)).2 then (L.foldl (stepS k x) (o, false)).1 else (L.foldl (stepS k x) (o, false)).1 ++ [(k, x)]) = o ++ putPr L k x
  | [], o => by simp [putPr]
  | e :: t, o => by
    rw [List.foldl_cons]
    by_cases he : k ≤ e.1
    · have h1 : stepS k x (o, false) e = ((o ++ [(k, x)]) ++ (if e.1 = k then [] else [e]), true) := by simp [stepS, he]
      rw [h1, fold_done]
      simp only [if_true]
      rw [putPr, if_pos he]
      have h2 : gonePr (e :: t) k = (if e.1 = k then [] else [e]) ++ gonePr t k := by
        unfold gonePr
        by_cases hk : e.1 = k
        · rw [if_pos hk, List.filter_cons_of_neg (by simp [hk])]; rfl
        · rw [if_neg hk, List.filter_cons_of_pos (by simp [hk])]; rfl
      rw [h2]
      simp
    · have h1 : stepS k x (o, false) e = (o ++ [e], false) := by simp [stepS, he, show ¬ e.1 = k by omega]
      rw [h1, fold_put k x t (o ++ [e]), putPr, if_neg he]
      simp
theorem setS_put (L : Prs) (k x : Int) : setS L k x true = putPr L k x := by
  unfold setS
  rw [accS_foldl L k x true _ (Nat.le_refl _), List.take_length]
  exact fold_put k x L []
theorem setS_gone (L : Prs) (k x : Int) : setS L k x false = gonePr L k := by
  unfold setS
  rw [accS_foldl L k x false _ (Nat.le_refl _), List.take_length]
  show (if (L.foldl (stepS k x) ([], true)).2 = true then (L.foldl (stepS k x) ([], true)).1 else _) = _
  rw [fold_done]
  rfl
theorem accS_len (L : Prs) (k x : Int) (has : Bool) : ∀ i, (accS L k x has i).1.length ≤ i * 2
  | 0 => by simp [accS]
  | i + 1 => by
    have h := accS_len L k x has i
    rw [accS, stepS]
    simp only [List.length_append]
    have h1 : (if (accS L k x has i).2 = false ∧ k ≤ (L.getD i (0, 0)).1 then (accS L k x has i).1 ++ [(k, x)] else (accS L k x has i).1).length ≤ (accS L k x has i).1.length + 1 := by split <;> simp
    have h2 : (if (L.getD i (0, 0)).1 = k then [] else [L.getD i (0, 0)]).length ≤ 1 := by split <;> simp
    omega
/-- What stands while the model sets. -/
def SetE (w : World) (k x : Int) (v : Value) (o : Prs) (X : World) : Prop := OwnM X (w.heap.size + 1) 148 2 v o.length (flatL o) ∧ Blk2 X w.heap.size (.int .i64 k) (.int .i64 x) ∧ Below w.heap.size w X
theorem SetE.push {w X w2 : World} {k x a b : Int} {ao ao1 : Option Addr} {cp cp1 : Nat} {o : Prs} (h : SetE w k x (.slice ao o.length cp) o X) (O2 : OwnM w2 (w.heap.size + 1) 148 2 (.slice ao1 (o.length + 1) cp1) (o.length + 1) (flatL o ++ nums (fun p => [a, b].getD p 0) (1 * 2))) (G2 : (X.alloc (.cells #[.int .i64 a, .int .i64 b] 148)).grownBy w2 (Value.slice ao o.length cp).ownBlock) : SetE w k x (.slice ao1 (o ++ [(a, b)]).length cp1) (o ++ [(a, b)]) w2 := by
  refine ⟨?_, (h.2.1.alloc _).kept (G2.block _ (by have := h.2.1.lt; simp; omega) (fun e => by have := (h.1.block _ e.symm).1; omega)), (h.2.2.alloc h.2.2.size _).grown G2 (by have := h.2.2.size; simp; omega) (fun r e => by have := (h.1.block r e).1; omega)⟩
  rw [List.length_append, flatL_append]
  exact O2
set_option maxRecDepth 100000 in
set_option maxHeartbeats 4000000 in
theorem l11Set_any (L : Prs) (v : Value) (B : Nat) (k x : Int) (has : Bool) (w : World) (h : Row w B 2 L.length (rowL L) v) (hn : L.length ≤ 1000) :
    Calls Tryz.prog 126 #[v, .agg #[.int .i64 k, .int .i64 x], .bool has] w fun e w' => ∃ ao cp, e = .returned (.slice ao (setS L k x has).length cp) ∧ Own w' w.heap.size 148 2 (setS L k x has).length (rowL (setS L k x has)) (.slice ao (setS L k x has).length cp) ∧ Below w.heap.size w w' := by
  obtain ⟨ao0, cp0, rfl⟩ := h.form
  have H : Hid (Row w B 2 L.length (rowL L) (.slice ao0 L.length cp0)) := h
  clear h
  obtain ⟨i0, hi, iz0, iz1, iz2⟩ := info_parts infoz_Pair
  obtain ⟨R, hR⟩ : ∃ R, setS L k x has = R := ⟨_, rfl⟩
  have HR : Hid (setS L k x has = R) := hR
  rw [hR]
  clear hR
  go_enter Tryz.func126, Tryz.ntmps126
  go_wp2
  go_loopw [7, 8, 9] (fun out d i wr => ∃ (j : Nat) (ao : Option Addr) (cp : Nat) (o : Prs) (dn : Bool), j ≤ L.length ∧ i = .int .i64 j ∧ d = .bool dn ∧ out = .slice ao o.length cp ∧ Hid (accS L k x has j = (o, dn)) ∧ Hid (SetE w k x (.slice ao o.length cp) o wr)) (fun _ _ i _ => L.length - (intOf i).toNat)
  case atStart =>
    refine ⟨0, _, _, [], !has, Nat.zero_le _, rfl, rfl, rfl, rfl, OwnM.lit0 _ _ _ _ (by simp), (Blk2.new w _ _ _).alloc _, (below_alloc _ _).alloc (by simp) _⟩
  case round =>
    obtain ⟨j, ao, cp, o, dn, hj, rfl, rfl, rfl, HA, HS⟩ := hrel
    have hol : o.length ≤ 2000 := by
      have := accS_len L k x has j
      rw [HA.out] at this
      simp only at this
      omega
    have hz : w.heap.size < wr.heap.size := HS.out.2.1.lt
    obtain ⟨⟨c0, c1⟩, _, _⟩ := HS.out.2.1
    by_cases hlt : j < L.length
    case neg =>
      obtain rfl : j = L.length := by omega
      cases dn with
      | true =>
        have HE : Hid (R = o) := by
          have := HR.out
          unfold setS at this
          rw [HA.out] at this
          exact (by simpa using this.symm : R = o)
        clear HA HR
        go_wp2
        refine bodyPost_ret (v := .slice ao o.length cp) (by simp [results, Tryz.results126, go_sem]) rfl ?_
        rw [HE.out]
        exact ⟨ao, cp, rfl, (ownM_own HS.out.1).mono (by omega), HS.out.2.2⟩
      | false =>
        have HE : Hid (R = o ++ [(k, x)]) := by
          have := HR.out
          unfold setS at this
          rw [HA.out] at this
          exact (by simpa using this.symm : R = o ++ [(k, x)])
        clear HA HR
        go_wp2_with (at_builtin; refine wpList_app 148 i0 (.agg #[.int .i64 0, .int .i64 0]) 2 16 rfl _ _ 55 rfl Tryz.underlying55 hi iz0 iz1 iz2 rfl (by omega) (by omega) _ (w.heap.size + 1) o.length (flatL o) (.slice ao o.length cp) rfl (HS.out.1.later (below_alloc _ _)) 0 1 (fun p => [k, x].getD p 0) (.slice (some ⟨wr.heap.size, 0, none⟩) 1 1) rfl (row_lit2 wr k x 148) (by omega) (by simp; omega) ?_; intro ao1 cp1 w1 O2 G2)
        have HS1 : Hid (SetE w k x (.slice ao1 (o ++ [(k, x)]).length cp1) (o ++ [(k, x)]) w1) := HS.out.push O2 G2
        have hz1 : w.heap.size < w1.heap.size := HS1.out.2.1.lt
        clear O2 G2
        go_wp2
        refine bodyPost_ret (v := .slice ao1 (o ++ [(k, x)]).length cp1) (by simp [results, Tryz.results126, go_sem]) rfl ?_
        rw [HE.out]
        exact ⟨ao1, cp1, rfl, (ownM_own HS1.out.1).mono (by omega), HS1.out.2.2⟩
    obtain ⟨g, oo, hao, _, hg, yw0, yw1⟩ := H.out.at2 hlt
    subst hao
    obtain ⟨n0, N0⟩ : ∃ x, rowL L (j * 2) = x := ⟨_, rfl⟩
    rw [N0] at yw0
    obtain ⟨n1, N1⟩ : ∃ x, rowL L (j * 2 + 1) = x := ⟨_, rfl⟩
    rw [N1] at yw1
    have HN : Hid (accS L k x has (j + 1) = stepS k x (o, dn) (n0, n1)) := by
      unfold Hid
      rw [accS, HA.out, ← N0, ← N1, rowL_key, rowL_val]
    clear N0 N1 HA HR c0 c1
    have yr0 := (HS.out.2.2.cell (p := ⟨g, oo + j * 2, none⟩) hg).trans yw0
    have yr1 := (HS.out.2.2.cell (p := ⟨g, oo + j * 2 + 1, none⟩) hg).trans yw1
    obtain ⟨⟨cr0, cr1⟩, _, _⟩ := HS.out.2.1
    cases dn with
    | true =>
      by_cases he : n0 = k
      · have HE : Hid (accS L k x has (j + 1) = (o, true)) := by unfold Hid; rw [HN.out]; simp [stepS, he]
        subst he
        clear HN
        go_wp2_with fail
        go_quiet (fail)
        have HSa : Hid (SetE w n0 x (.slice ao (o).length cp) (o) (wr.drewN nq)) := ⟨HS.out.1, HS.out.2.1, below_dn HS.out.2.2 _⟩
        generalize wr.drewN nq = Xa at HSa ⊢
        have hza : w.heap.size < Xa.heap.size := HSa.out.2.1.lt
        have ya0 := (HSa.out.2.2.cell (p := ⟨g, oo + j * 2, none⟩) hg).trans yw0
        have ya1 := (HSa.out.2.2.cell (p := ⟨g, oo + j * 2 + 1, none⟩) hg).trans yw1
        obtain ⟨⟨ca0, ca1⟩, _, _⟩ := HSa.out.2.1
        clear yr0 yr1 cr0 cr1
        go_wp2_with fail
        go_quiet (fail)
        have HSb : Hid (SetE w n0 x (.slice ao (o).length cp) (o) (Xa.drewN nq)) := ⟨HSa.out.1, HSa.out.2.1, below_dn HSa.out.2.2 _⟩
        generalize Xa.drewN nq = Xb at HSb ⊢
        have hzb : w.heap.size < Xb.heap.size := HSb.out.2.1.lt
        have yb0 := (HSb.out.2.2.cell (p := ⟨g, oo + j * 2, none⟩) hg).trans yw0
        have yb1 := (HSb.out.2.2.cell (p := ⟨g, oo + j * 2 + 1, none⟩) hg).trans yw1
        obtain ⟨⟨cb0, cb1⟩, _, _⟩ := HSb.out.2.1
        go_wp2
        go_roundw
        case rel => exact ⟨j + 1, ao, cp, o, true, by omega, by go_num, rfl, by first | rfl | simp, HE, HSb⟩
        case measure => simp [intOf]; omega
      · have HE : Hid (accS L k x has (j + 1) = (o ++ [(n0, n1)], true)) := by unfold Hid; rw [HN.out]; simp [stepS, he]
        have d : (n0 != k) = true := bne_iff_ne.2 he
        clear HN he
        go_wp2_with fail
        go_quiet (fail)
        have HSa : Hid (SetE w k x (.slice ao (o).length cp) (o) (wr.drewN nq)) := ⟨HS.out.1, HS.out.2.1, below_dn HS.out.2.2 _⟩
        generalize wr.drewN nq = Xa at HSa ⊢
        have hza : w.heap.size < Xa.heap.size := HSa.out.2.1.lt
        have ya0 := (HSa.out.2.2.cell (p := ⟨g, oo + j * 2, none⟩) hg).trans yw0
        have ya1 := (HSa.out.2.2.cell (p := ⟨g, oo + j * 2 + 1, none⟩) hg).trans yw1
        obtain ⟨⟨ca0, ca1⟩, _, _⟩ := HSa.out.2.1
        clear yr0 yr1 cr0 cr1
        go_wp2_with fail
        go_quiet (fail)
        have HSb : Hid (SetE w k x (.slice ao (o).length cp) (o) (Xa.drewN nq)) := ⟨HSa.out.1, HSa.out.2.1, below_dn HSa.out.2.2 _⟩
        generalize Xa.drewN nq = Xb at HSb ⊢
        have hzb : w.heap.size < Xb.heap.size := HSb.out.2.1.lt
        have yb0 := (HSb.out.2.2.cell (p := ⟨g, oo + j * 2, none⟩) hg).trans yw0
        have yb1 := (HSb.out.2.2.cell (p := ⟨g, oo + j * 2 + 1, none⟩) hg).trans yw1
        obtain ⟨⟨cb0, cb1⟩, _, _⟩ := HSb.out.2.1
        clear ya0 ya1 ca0 ca1
        go_wp2_with (at_builtin; refine wpList_app 148 i0 (.agg #[.int .i64 0, .int .i64 0]) 2 16 rfl _ _ 55 rfl Tryz.underlying55 hi iz0 iz1 iz2 rfl (by omega) (by omega) _ (w.heap.size + 1) (o).length (flatL (o)) (.slice ao (o).length cp) rfl (HSb.out.1.later (below_alloc _ _)) 0 1 (fun p => [n0, n1].getD p 0) (.slice (some ⟨Xb.heap.size, 0, none⟩) 1 1) rfl (row_lit2 Xb n0 n1 148) (by simp <;> omega) (by simp; omega) ?_; intro ao1 cp1 w1 O2 G2)
        have HS1 : Hid (SetE w k x (.slice ao1 ((o) ++ [(n0, n1)]).length cp1) ((o) ++ [(n0, n1)]) w1) := HSb.out.push O2 G2
        have hz1 : w.heap.size < w1.heap.size := HS1.out.2.1.lt
        clear O2 G2
        go_wp2
        go_roundw
        case rel => exact ⟨j + 1, ao1, cp1, o ++ [(n0, n1)], true, by omega, by go_num, rfl, by first | rfl | simp, HE, HS1⟩
        case measure => simp [intOf]; omega
    | false =>
      by_cases hle : k ≤ n0
      · have dg : decide (n0 ≥ k) = true := decide_eq_true hle
        by_cases he : n0 = k
        · have HE : Hid (accS L k x has (j + 1) = (o ++ [(k, x)], true)) := by unfold Hid; rw [HN.out]; simp [stepS, he]
          subst he
          clear HN hle
          go_wp2_with fail
          go_quiet (fail)
          have HSa : Hid (SetE w n0 x (.slice ao (o).length cp) (o) (wr.drewN nq)) := ⟨HS.out.1, HS.out.2.1, below_dn HS.out.2.2 _⟩
          generalize wr.drewN nq = Xa at HSa ⊢
          have hza : w.heap.size < Xa.heap.size := HSa.out.2.1.lt
          have ya0 := (HSa.out.2.2.cell (p := ⟨g, oo + j * 2, none⟩) hg).trans yw0
          have ya1 := (HSa.out.2.2.cell (p := ⟨g, oo + j * 2 + 1, none⟩) hg).trans yw1
          obtain ⟨⟨ca0, ca1⟩, _, _⟩ := HSa.out.2.1
          clear yr0 yr1 cr0 cr1
          go_wp2_with (at_builtin; refine wpList_app 148 i0 (.agg #[.int .i64 0, .int .i64 0]) 2 16 rfl _ _ 55 rfl Tryz.underlying55 hi iz0 iz1 iz2 rfl (by omega) (by omega) _ (w.heap.size + 1) (o).length (flatL (o)) (.slice ao (o).length cp) rfl (HSa.out.1.later (below_alloc _ _)) 0 1 (fun p => [n0, x].getD p 0) (.slice (some ⟨Xa.heap.size, 0, none⟩) 1 1) rfl (row_lit2 Xa n0 x 148) (by simp <;> omega) (by simp; omega) ?_; intro ao1 cp1 w1 O2 G2)
          have HS1 : Hid (SetE w n0 x (.slice ao1 ((o) ++ [(n0, x)]).length cp1) ((o) ++ [(n0, x)]) w1) := HSa.out.push O2 G2
          have hz1 : w.heap.size < w1.heap.size := HS1.out.2.1.lt
          clear O2 G2
          clear ya0 ya1 ca0 ca1
          have ys0 := (HS1.out.2.2.cell (p := ⟨g, oo + j * 2, none⟩) hg).trans yw0
          have ys1 := (HS1.out.2.2.cell (p := ⟨g, oo + j * 2 + 1, none⟩) hg).trans yw1
          obtain ⟨⟨cs0, cs1⟩, _, _⟩ := HS1.out.2.1
          go_wp2_with fail
          go_quiet (fail)
          have HSb : Hid (SetE w n0 x (.slice ao1 (o ++ [(n0, x)]).length cp1) (o ++ [(n0, x)]) (w1.drewN nq)) := ⟨HS1.out.1, HS1.out.2.1, below_dn HS1.out.2.2 _⟩
          generalize w1.drewN nq = Xb at HSb ⊢
          have hzb : w.heap.size < Xb.heap.size := HSb.out.2.1.lt
          have yb0 := (HSb.out.2.2.cell (p := ⟨g, oo + j * 2, none⟩) hg).trans yw0
          have yb1 := (HSb.out.2.2.cell (p := ⟨g, oo + j * 2 + 1, none⟩) hg).trans yw1
          obtain ⟨⟨cb0, cb1⟩, _, _⟩ := HSb.out.2.1
          go_wp2
          go_roundw
          case rel => exact ⟨j + 1, ao1, cp1, o ++ [(n0, x)], true, by omega, by go_num, rfl, by first | rfl | simp, HE, HSb⟩
          case measure => simp [intOf]; omega
        · have HE : Hid (accS L k x has (j + 1) = ((o ++ [(k, x)]) ++ [(n0, n1)], true)) := by unfold Hid; rw [HN.out]; simp [stepS, he, hle]
          have d : (n0 != k) = true := bne_iff_ne.2 he
          clear HN hle he
          go_wp2_with fail
          go_quiet (fail)
          have HSa : Hid (SetE w k x (.slice ao (o).length cp) (o) (wr.drewN nq)) := ⟨HS.out.1, HS.out.2.1, below_dn HS.out.2.2 _⟩
          generalize wr.drewN nq = Xa at HSa ⊢
          have hza : w.heap.size < Xa.heap.size := HSa.out.2.1.lt
          have ya0 := (HSa.out.2.2.cell (p := ⟨g, oo + j * 2, none⟩) hg).trans yw0
          have ya1 := (HSa.out.2.2.cell (p := ⟨g, oo + j * 2 + 1, none⟩) hg).trans yw1
          obtain ⟨⟨ca0, ca1⟩, _, _⟩ := HSa.out.2.1
          clear yr0 yr1 cr0 cr1
          go_wp2_with (at_builtin; refine wpList_app 148 i0 (.agg #[.int .i64 0, .int .i64 0]) 2 16 rfl _ _ 55 rfl Tryz.underlying55 hi iz0 iz1 iz2 rfl (by omega) (by omega) _ (w.heap.size + 1) (o).length (flatL (o)) (.slice ao (o).length cp) rfl (HSa.out.1.later (below_alloc _ _)) 0 1 (fun p => [k, x].getD p 0) (.slice (some ⟨Xa.heap.size, 0, none⟩) 1 1) rfl (row_lit2 Xa k x 148) (by simp <;> omega) (by simp; omega) ?_; intro ao1 cp1 w1 O2 G2)
          have HS1 : Hid (SetE w k x (.slice ao1 ((o) ++ [(k, x)]).length cp1) ((o) ++ [(k, x)]) w1) := HSa.out.push O2 G2
          have hz1 : w.heap.size < w1.heap.size := HS1.out.2.1.lt
          clear O2 G2
          clear ya0 ya1 ca0 ca1
          have ys0 := (HS1.out.2.2.cell (p := ⟨g, oo + j * 2, none⟩) hg).trans yw0
          have ys1 := (HS1.out.2.2.cell (p := ⟨g, oo + j * 2 + 1, none⟩) hg).trans yw1
          obtain ⟨⟨cs0, cs1⟩, _, _⟩ := HS1.out.2.1
          go_wp2_with fail
          go_quiet (fail)
          have HSb : Hid (SetE w k x (.slice ao1 (o ++ [(k, x)]).length cp1) (o ++ [(k, x)]) (w1.drewN nq)) := ⟨HS1.out.1, HS1.out.2.1, below_dn HS1.out.2.2 _⟩
          generalize w1.drewN nq = Xb at HSb ⊢
          have hzb : w.heap.size < Xb.heap.size := HSb.out.2.1.lt
          have yb0 := (HSb.out.2.2.cell (p := ⟨g, oo + j * 2, none⟩) hg).trans yw0
          have yb1 := (HSb.out.2.2.cell (p := ⟨g, oo + j * 2 + 1, none⟩) hg).trans yw1
          obtain ⟨⟨cb0, cb1⟩, _, _⟩ := HSb.out.2.1
          clear ys0 ys1 cs0 cs1
          have e1 : (o ++ [(k, x)]).length = o.length + 1 := by simp
          go_wp2_with (at_builtin; refine wpList_app 148 i0 (.agg #[.int .i64 0, .int .i64 0]) 2 16 rfl _ _ 55 rfl Tryz.underlying55 hi iz0 iz1 iz2 rfl (by omega) (by omega) _ (w.heap.size + 1) (o.length + 1) (flatL (o ++ [(k, x)])) (.slice ao1 (o.length + 1) cp1) rfl (by have q := HSb.out.1.later (below_alloc _ (.cells #[.int .i64 n0, .int .i64 n1] 148)); rw [e1] at q; exact q) 0 1 (fun p => [n0, n1].getD p 0) (.slice (some ⟨Xb.heap.size, 0, none⟩) 1 1) rfl (row_lit2 Xb n0 n1 148) (by simp <;> omega) (by simp; omega) ?_; intro ao2 cp2 w2 O2 G2)
          have HS2 : Hid (SetE w k x (.slice ao2 ((o ++ [(k, x)]) ++ [(n0, n1)]).length cp2) ((o ++ [(k, x)]) ++ [(n0, n1)]) w2) := HSb.out.push (by rw [e1]; exact O2) (by rw [e1]; exact G2)
          have hz3 : w.heap.size < w2.heap.size := HS2.out.2.1.lt
          clear O2 G2
          go_wp2
          go_roundw
          case rel => exact ⟨j + 1, ao2, cp2, (o ++ [(k, x)]) ++ [(n0, n1)], true, by omega, by go_num, rfl, by first | rfl | simp, HE, HS2⟩
          case measure => simp [intOf]; omega
      · have dg : decide (n0 ≥ k) = false := decide_eq_false hle
        have he : n0 ≠ k := by omega
        have HE : Hid (accS L k x has (j + 1) = (o ++ [(n0, n1)], false)) := by unfold Hid; rw [HN.out]; simp [stepS, he, hle]
        have d : (n0 != k) = true := bne_iff_ne.2 he
        clear HN hle he
        go_wp2_with fail
        go_quiet (fail)
        have HSa : Hid (SetE w k x (.slice ao (o).length cp) (o) (wr.drewN nq)) := ⟨HS.out.1, HS.out.2.1, below_dn HS.out.2.2 _⟩
        generalize wr.drewN nq = Xa at HSa ⊢
        have hza : w.heap.size < Xa.heap.size := HSa.out.2.1.lt
        have ya0 := (HSa.out.2.2.cell (p := ⟨g, oo + j * 2, none⟩) hg).trans yw0
        have ya1 := (HSa.out.2.2.cell (p := ⟨g, oo + j * 2 + 1, none⟩) hg).trans yw1
        obtain ⟨⟨ca0, ca1⟩, _, _⟩ := HSa.out.2.1
        clear yr0 yr1 cr0 cr1
        go_wp2_with fail
        go_quiet (fail)
        have HSb : Hid (SetE w k x (.slice ao (o).length cp) (o) (Xa.drewN nq)) := ⟨HSa.out.1, HSa.out.2.1, below_dn HSa.out.2.2 _⟩
        generalize Xa.drewN nq = Xb at HSb ⊢
        have hzb : w.heap.size < Xb.heap.size := HSb.out.2.1.lt
        have yb0 := (HSb.out.2.2.cell (p := ⟨g, oo + j * 2, none⟩) hg).trans yw0
        have yb1 := (HSb.out.2.2.cell (p := ⟨g, oo + j * 2 + 1, none⟩) hg).trans yw1
        obtain ⟨⟨cb0, cb1⟩, _, _⟩ := HSb.out.2.1
        clear ya0 ya1 ca0 ca1
        go_wp2_with (at_builtin; refine wpList_app 148 i0 (.agg #[.int .i64 0, .int .i64 0]) 2 16 rfl _ _ 55 rfl Tryz.underlying55 hi iz0 iz1 iz2 rfl (by omega) (by omega) _ (w.heap.size + 1) (o).length (flatL (o)) (.slice ao (o).length cp) rfl (HSb.out.1.later (below_alloc _ _)) 0 1 (fun p => [n0, n1].getD p 0) (.slice (some ⟨Xb.heap.size, 0, none⟩) 1 1) rfl (row_lit2 Xb n0 n1 148) (by simp <;> omega) (by simp; omega) ?_; intro ao1 cp1 w1 O2 G2)
        have HS1 : Hid (SetE w k x (.slice ao1 ((o) ++ [(n0, n1)]).length cp1) ((o) ++ [(n0, n1)]) w1) := HSb.out.push O2 G2
        have hz1 : w.heap.size < w1.heap.size := HS1.out.2.1.lt
        clear O2 G2
        go_wp2
        go_roundw
        case rel => exact ⟨j + 1, ao1, cp1, o ++ [(n0, n1)], false, by omega, by go_num, rfl, by first | rfl | simp, HE, HS1⟩
        case measure => simp [intOf]; omega
end Go.Proofs.YtglcedhkbbckiaaGreat

namespace Go.Proofs.YtglcedhkbbckiaaGreat
open Go.RowKit

def ItmE (w : World) (g o i : Nat) (n0 n1 n2 : Int) (X : World) : Prop := (X.cell? ⟨g, o + i * 3, none⟩ = some (.int .i64 n0) ∧ X.cell? ⟨g, o + i * 3 + 1, none⟩ = some (.int .i64 n1) ∧ X.cell? ⟨g, o + i * 3 + 2, none⟩ = some (.int .i64 n2)) ∧ Below w.heap.size w X
theorem ItmE.later {w X X' : World} {g o i : Nat} {n0 n1 n2 : Int} (h : ItmE w g o i n0 n1 n2 X) (hb : Below X.heap.size X X') : ItmE w g o i n0 n1 n2 X' := by
  obtain ⟨⟨h0, h1, h2⟩, hy⟩ := h
  exact ⟨⟨(hb.cell (lt_cellP h0)).trans h0, (hb.cell (lt_cellP h1)).trans h1, (hb.cell (lt_cellP h2)).trans h2⟩, hy.trans (hb.mono hy.size)⟩
set_option maxRecDepth 100000 in
set_option maxHeartbeats 4000000 in
theorem l11Apply_any (L : Prs) (G : Nat → Int) (m : Nat) (v y : Value) (B B' : Nat) (w : World) (h : Row w B 2 L.length (rowL L) v) (hi' : Row w B' 3 m G y) (hn : L.length ≤ 800) (hm : m ≤ 12) (hk : ∀ i, i < m → 1 ≤ G (i * 3 + 1) ∧ G (i * 3 + 1) ≤ 3) :
    Calls Tryz.prog 83 #[v, y] w fun e w' => ∃ ao cp, e = .returned (.slice ao (applyN L G m).length cp) ∧ Own w' w.heap.size 148 2 (applyN L G m).length (rowL (applyN L G m)) (.slice ao (applyN L G m).length cp) ∧ Below w.heap.size w w' := by
  obtain ⟨ao0, cp0, rfl⟩ := h.form
  obtain ⟨bo0, bp0, rfl⟩ := hi'.form
  have H : Hid (Row w B 2 L.length (rowL L) (.slice ao0 L.length cp0) ∧ Row w B' 3 m G (.slice bo0 m bp0)) := ⟨h, hi'⟩
  clear h hi'
  obtain ⟨i0, hi, iz0, iz1, iz2⟩ := info_parts infoz_Pair
  go_enter Tryz.func83, Tryz.ntmps83
  go_wp2_with (at_builtin; refine wpList_app 148 i0 (.agg #[.int .i64 0, .int .i64 0]) 2 16 rfl _ _ 55 rfl Tryz.underlying55 hi iz0 iz1 iz2 rfl (by omega) (by omega) _ w.heap.size 0 [] (.slice (some ⟨w.heap.size, 0, none⟩) 0 0) rfl (OwnM.lit0 _ _ _ _ rfl) B L.length (rowL L) (.slice ao0 L.length cp0) rfl (H.out.1.alloc _) (by omega) (by simp) ?_; intro ao1 cp1 w2 O2 G2)
  have HS2 : Hid (Own w2 w.heap.size 148 2 L.length (rowL L) (.slice ao1 L.length cp1) ∧ Below w.heap.size w w2) := by
    rw [Nat.zero_add, List.nil_append] at O2
    exact ⟨own_eqP (O2.own (nums_length _ _)) (fun p hp => by simp [nums, hp]), (below_alloc w _).grown G2 (by simp) (fun r e => by simp [Value.ownBlock] at e; omega)⟩
  clear O2 G2
  go_wp2
  go_loopw [5, 6] (fun out i wr => ∃ (j : Nat) (ao : Option Addr) (cp : Nat), j ≤ m ∧ i = .int .i64 j ∧ out = .slice ao (applyN L G j).length cp ∧ Hid (Own wr w.heap.size 148 2 (applyN L G j).length (rowL (applyN L G j)) (.slice ao (applyN L G j).length cp) ∧ Below w.heap.size w wr)) (fun _ i _ => m - (intOf i).toNat)
  case atStart => exact ⟨0, ao1, cp1, Nat.zero_le _, rfl, rfl, HS2⟩
  case round =>
    obtain ⟨j, ao, cp, hj, rfl, rfl, HS⟩ := hrel
    by_cases hlt : j < m
    case neg =>
      obtain rfl : j = m := by omega
      go_wp2
      exact bodyPost_ret (v := .slice ao (applyN L G j).length cp) (by simp [results, Tryz.results83, go_sem]) rfl ⟨ao, cp, rfl, HS.out⟩
    have hlen : (applyN L G j).length ≤ 812 := Nat.le_trans (applyN_len L G j) (by omega)
    have hkj := hk j hlt
    obtain ⟨g, o, hbo, _, hg, y0, y1, y2⟩ := (H.out.2.later HS.out.2).at3 hlt
    subst hbo
    obtain ⟨n0, N0⟩ : ∃ x, G (j * 3) = x := ⟨_, rfl⟩
    rw [N0] at y0
    obtain ⟨n1, N1⟩ : ∃ x, G (j * 3 + 1) = x := ⟨_, rfl⟩
    rw [N1] at y1 hkj
    obtain ⟨n2, N2⟩ : ∃ x, G (j * 3 + 2) = x := ⟨_, rfl⟩
    rw [N2] at y2
    have HP : Hid (applyN L G (j + 1) = stepA (applyN L G j) n0 n1 n2) := by
      unfold Hid
      rw [← N0, ← N1, ← N2]
      rfl
    clear N0 N1 N2 HS2
    obtain ⟨A, hA⟩ : ∃ A, applyN L G j = A := ⟨_, rfl⟩
    rw [hA] at hlen HS HP
    rw [hA]
    clear hA
    by_cases k3 : n1 = 3
    · have HE : Hid (applyN L G (j + 1) = A) := by unfold Hid; rw [HP.out, stepA, if_neg (by omega), if_neg (by omega)]
      subst k3
      clear HP hkj
      go_wp2
      go_roundw
      case rel =>
        refine ⟨j + 1, ao, cp, by omega, by go_num, by rw [HE.out], ?_⟩
        rw [HE.out]
        exact HS
      case measure => simp [intOf]; omega
    have d3 : (n1 != 3) = true := bne_iff_ne.2 k3
    by_cases k1 : n1 = 1
    · have HE : Hid (applyN L G (j + 1) = setS A n0 n2 true) := by unfold Hid; rw [HP.out, stepA, if_pos k1, setS_put]
      subst k1
      clear HP hkj k3 d3
      go_wp2_with fail
      refine wp_region_held_drew (S := ItmE w g o j n0 1 n2) (by kernel_rfl) ⟨⟨y0, y1, y2⟩, HS.out.2.drew⟩ (fun hS => ?_)
      refine tkH 0 ?_ hS (fun wx hx => ?_) ?_; rotate_left
      · obtain ⟨⟨hx0, hx1, hx2⟩, _⟩ := hx; go_simp; try with_reducible rfl
      refine tkH 1 ?_ hS (fun wx hx => ?_) ?_; rotate_left
      · obtain ⟨⟨hx0, hx1, hx2⟩, _⟩ := hx; go_simp; try with_reducible rfl
      refine tkH 2 ?_ hS (fun wx hx => ?_) ?_; rotate_left
      · obtain ⟨⟨hx0, hx1, hx2⟩, _⟩ := hx; go_simp; try with_reducible rfl
      try simp only [Act.put, List.getElem_toArray, List.getElem_cons_zero, List.getElem_cons_succ, List.setIfInBounds_toArray, List.set_cons_succ, List.set_cons_zero]
      refine tkH 3 ?_ hS (fun wx hx => ?_) ?_; rotate_left
      · obtain ⟨⟨hx0, hx1, hx2⟩, _⟩ := hx; go_simp; try with_reducible rfl
      refine tkH 4 ?_ hS (fun wx hx => ?_) ?_; rotate_left
      · obtain ⟨⟨hx0, hx1, hx2⟩, _⟩ := hx; go_simp; try with_reducible rfl
      refine tkH 5 ?_ hS (fun wx hx => ?_) ?_; rotate_left
      · obtain ⟨⟨hx0, hx1, hx2⟩, _⟩ := hx; go_simp; try with_reducible rfl
      try simp only [Act.put, List.getElem_toArray, List.getElem_cons_zero, List.getElem_cons_succ, List.setIfInBounds_toArray, List.set_cons_succ, List.set_cons_zero]
      refine tkH 6 ?_ hS (fun wx hx => ?_) ?_; rotate_left
      · obtain ⟨⟨hx0, hx1, hx2⟩, _⟩ := hx; go_simp; try with_reducible rfl
      refine tkH 7 ?_ hS (fun wx hx => ?_) ?_; rotate_left
      · obtain ⟨⟨hx0, hx1, hx2⟩, _⟩ := hx; go_simp; try with_reducible rfl
      refine tkH 8 ?_ hS (fun wx hx => ?_) ?_; rotate_left
      · obtain ⟨⟨hx0, hx1, hx2⟩, _⟩ := hx; go_simp; try with_reducible rfl
      try simp only [Act.put, List.getElem_toArray, List.getElem_cons_zero, List.getElem_cons_succ, List.setIfInBounds_toArray, List.set_cons_succ, List.set_cons_zero]
      refine tkH 9 ?_ hS (fun wx hx => ?_) ?_; rotate_left
      · obtain ⟨⟨hx0, hx1, hx2⟩, _⟩ := hx; go_simp; try with_reducible rfl
      refine tkH 10 ?_ hS (fun wx hx => ?_) ?_; rotate_left
      · obtain ⟨⟨hx0, hx1, hx2⟩, _⟩ := hx; go_simp; try with_reducible rfl
      refine tkH 11 ?_ hS (fun wx hx => ?_) ?_; rotate_left
      · obtain ⟨⟨hx0, hx1, hx2⟩, _⟩ := hx; go_simp; try with_reducible rfl
      try simp only [Act.put, List.getElem_toArray, List.getElem_cons_zero, List.getElem_cons_succ, List.setIfInBounds_toArray, List.set_cons_succ, List.set_cons_zero]
      refine tkH 12 ?_ hS (fun wx hx => ?_) ?_; rotate_left
      · obtain ⟨⟨hx0, hx1, hx2⟩, _⟩ := hx; go_simp; try with_reducible rfl
      refine tkH 13 ?_ hS (fun wx hx => ?_) ?_; rotate_left
      · obtain ⟨⟨hx0, hx1, hx2⟩, _⟩ := hx; go_simp; try with_reducible rfl
      refine tkH 14 ?_ hS (fun wx hx => ?_) ?_; rotate_left
      · obtain ⟨⟨hx0, hx1, hx2⟩, _⟩ := hx; go_simp; try with_reducible rfl
      try simp only [Act.put, List.getElem_toArray, List.getElem_cons_zero, List.getElem_cons_succ, List.setIfInBounds_toArray, List.set_cons_succ, List.set_cons_zero]
      refine tkH 15 ?_ hS (fun wx hx => ?_) ?_; rotate_left
      · obtain ⟨⟨hx0, hx1, hx2⟩, _⟩ := hx; go_simp; try with_reducible rfl
      refine tkH 16 ?_ hS (fun wx hx => ?_) ?_; rotate_left
      · obtain ⟨⟨hx0, hx1, hx2⟩, _⟩ := hx; go_simp; try with_reducible rfl
      refine tkH 17 ?_ hS (fun wx hx => ?_) ?_; rotate_left
      · obtain ⟨⟨hx0, hx1, hx2⟩, _⟩ := hx; go_simp; try with_reducible rfl
      try simp only [Act.put, List.getElem_toArray, List.getElem_cons_zero, List.getElem_cons_succ, List.setIfInBounds_toArray, List.set_cons_succ, List.set_cons_zero]
      refine rdH 18 (fun K hK => ?_)
      go_simp
      go_wp2_with fail
      refine (l11Set_any A _ w.heap.size n0 n2 true _ (HS.out.1.later (Below.drew (Below.refl _ _))).row.1 (by omega)).mono ?_
      rintro e w1 ⟨ao1, cp1, rfl, o1, q1⟩
      have hS1 := hS.later q1
      have HS1 : Hid (Own w1 w.heap.size 148 2 (setS A n0 n2 true).length (rowL (setS A n0 n2 true)) (.slice ao1 (setS A n0 n2 true).length cp1) ∧ Below w.heap.size w w1) := ⟨o1.mono hS.2.size, hS1.2⟩
      clear hS q1 o1
      go_wp2_with fail
      refine hK.out _ _ hS1 (fun hS => ?_)
      clear hK K hS1
      refine tkH 19 ?_ hS (fun wx hx => ?_) ?_; rotate_left
      · obtain ⟨⟨hx0, hx1, hx2⟩, _⟩ := hx; go_simp; try with_reducible rfl
      refine wpAnyH_done (by kernel_rfl) ?_ _
      obtain ⟨LEN, hLEN⟩ : ∃ LEN, LEN = (setS A n0 n2 true).length := ⟨_, rfl⟩
      rw [← hLEN]
      have HLEN : Hid (LEN = (setS A n0 n2 true).length) := hLEN
      clear hLEN
      go_simp
      go_wp2
      go_roundw
      case rel =>
        refine ⟨j + 1, ao1, cp1, by omega, by go_num, by rw [HE.out, HLEN.out], ?_⟩
        rw [HE.out]
        exact HS1
      case measure => simp [intOf]; omega
    · have HE : Hid (applyN L G (j + 1) = setS A n0 n2 false) := by unfold Hid; rw [HP.out, stepA, if_neg k1, if_pos (by omega), setS_gone]
      obtain rfl : n1 = 2 := by omega
      clear HP hkj k3 k1 d3
      go_wp2_with fail
      refine wp_region_held_drew (S := ItmE w g o j n0 2 n2) (by kernel_rfl) ⟨⟨y0, y1, y2⟩, HS.out.2.drew⟩ (fun hS => ?_)
      refine tkH 0 ?_ hS (fun wx hx => ?_) ?_; rotate_left
      · obtain ⟨⟨hx0, hx1, hx2⟩, _⟩ := hx; go_simp; try with_reducible rfl
      refine tkH 1 ?_ hS (fun wx hx => ?_) ?_; rotate_left
      · obtain ⟨⟨hx0, hx1, hx2⟩, _⟩ := hx; go_simp; try with_reducible rfl
      refine tkH 2 ?_ hS (fun wx hx => ?_) ?_; rotate_left
      · obtain ⟨⟨hx0, hx1, hx2⟩, _⟩ := hx; go_simp; try with_reducible rfl
      try simp only [Act.put, List.getElem_toArray, List.getElem_cons_zero, List.getElem_cons_succ, List.setIfInBounds_toArray, List.set_cons_succ, List.set_cons_zero]
      refine tkH 3 ?_ hS (fun wx hx => ?_) ?_; rotate_left
      · obtain ⟨⟨hx0, hx1, hx2⟩, _⟩ := hx; go_simp; try with_reducible rfl
      refine tkH 4 ?_ hS (fun wx hx => ?_) ?_; rotate_left
      · obtain ⟨⟨hx0, hx1, hx2⟩, _⟩ := hx; go_simp; try with_reducible rfl
      refine tkH 5 ?_ hS (fun wx hx => ?_) ?_; rotate_left
      · obtain ⟨⟨hx0, hx1, hx2⟩, _⟩ := hx; go_simp; try with_reducible rfl
      try simp only [Act.put, List.getElem_toArray, List.getElem_cons_zero, List.getElem_cons_succ, List.setIfInBounds_toArray, List.set_cons_succ, List.set_cons_zero]
      refine tkH 6 ?_ hS (fun wx hx => ?_) ?_; rotate_left
      · obtain ⟨⟨hx0, hx1, hx2⟩, _⟩ := hx; go_simp; try with_reducible rfl
      refine tkH 7 ?_ hS (fun wx hx => ?_) ?_; rotate_left
      · obtain ⟨⟨hx0, hx1, hx2⟩, _⟩ := hx; go_simp; try with_reducible rfl
      refine tkH 8 ?_ hS (fun wx hx => ?_) ?_; rotate_left
      · obtain ⟨⟨hx0, hx1, hx2⟩, _⟩ := hx; go_simp; try with_reducible rfl
      try simp only [Act.put, List.getElem_toArray, List.getElem_cons_zero, List.getElem_cons_succ, List.setIfInBounds_toArray, List.set_cons_succ, List.set_cons_zero]
      refine tkH 9 ?_ hS (fun wx hx => ?_) ?_; rotate_left
      · obtain ⟨⟨hx0, hx1, hx2⟩, _⟩ := hx; go_simp; try with_reducible rfl
      refine tkH 10 ?_ hS (fun wx hx => ?_) ?_; rotate_left
      · obtain ⟨⟨hx0, hx1, hx2⟩, _⟩ := hx; go_simp; try with_reducible rfl
      refine tkH 11 ?_ hS (fun wx hx => ?_) ?_; rotate_left
      · obtain ⟨⟨hx0, hx1, hx2⟩, _⟩ := hx; go_simp; try with_reducible rfl
      try simp only [Act.put, List.getElem_toArray, List.getElem_cons_zero, List.getElem_cons_succ, List.setIfInBounds_toArray, List.set_cons_succ, List.set_cons_zero]
      refine tkH 12 ?_ hS (fun wx hx => ?_) ?_; rotate_left
      · obtain ⟨⟨hx0, hx1, hx2⟩, _⟩ := hx; go_simp; try with_reducible rfl
      refine tkH 13 ?_ hS (fun wx hx => ?_) ?_; rotate_left
      · obtain ⟨⟨hx0, hx1, hx2⟩, _⟩ := hx; go_simp; try with_reducible rfl
      refine tkH 14 ?_ hS (fun wx hx => ?_) ?_; rotate_left
      · obtain ⟨⟨hx0, hx1, hx2⟩, _⟩ := hx; go_simp; try with_reducible rfl
      try simp only [Act.put, List.getElem_toArray, List.getElem_cons_zero, List.getElem_cons_succ, List.setIfInBounds_toArray, List.set_cons_succ, List.set_cons_zero]
      refine tkH 15 ?_ hS (fun wx hx => ?_) ?_; rotate_left
      · obtain ⟨⟨hx0, hx1, hx2⟩, _⟩ := hx; go_simp; try with_reducible rfl
      refine tkH 16 ?_ hS (fun wx hx => ?_) ?_; rotate_left
      · obtain ⟨⟨hx0, hx1, hx2⟩, _⟩ := hx; go_simp; try with_reducible rfl
      refine tkH 17 ?_ hS (fun wx hx => ?_) ?_; rotate_left
      · obtain ⟨⟨hx0, hx1, hx2⟩, _⟩ := hx; go_simp; try with_reducible rfl
      try simp only [Act.put, List.getElem_toArray, List.getElem_cons_zero, List.getElem_cons_succ, List.setIfInBounds_toArray, List.set_cons_succ, List.set_cons_zero]
      refine rdH 18 (fun K hK => ?_)
      go_simp
      go_wp2_with fail
      refine (l11Set_any A _ w.heap.size n0 n2 false _ (HS.out.1.later (Below.drew (Below.refl _ _))).row.1 (by omega)).mono ?_
      rintro e w1 ⟨ao1, cp1, rfl, o1, q1⟩
      have hS1 := hS.later q1
      have HS1 : Hid (Own w1 w.heap.size 148 2 (setS A n0 n2 false).length (rowL (setS A n0 n2 false)) (.slice ao1 (setS A n0 n2 false).length cp1) ∧ Below w.heap.size w w1) := ⟨o1.mono hS.2.size, hS1.2⟩
      clear hS q1 o1
      go_wp2_with fail
      refine hK.out _ _ hS1 (fun hS => ?_)
      clear hK K hS1
      refine tkH 19 ?_ hS (fun wx hx => ?_) ?_; rotate_left
      · obtain ⟨⟨hx0, hx1, hx2⟩, _⟩ := hx; go_simp; try with_reducible rfl
      refine wpAnyH_done (by kernel_rfl) ?_ _
      obtain ⟨LEN, hLEN⟩ : ∃ LEN, LEN = (setS A n0 n2 false).length := ⟨_, rfl⟩
      rw [← hLEN]
      have HLEN : Hid (LEN = (setS A n0 n2 false).length) := hLEN
      clear hLEN
      go_simp
      go_wp2
      go_roundw
      case rel =>
        refine ⟨j + 1, ao1, cp1, by omega, by go_num, by rw [HE.out, HLEN.out], ?_⟩
        rw [HE.out]
        exact HS1
      case measure => simp [intOf]; omega
end Go.Proofs.YtglcedhkbbckiaaGreat

namespace Go.Proofs.YtglcedhkbbckiaaGreat
open Go.RowKit

/-- What the first k of them did up to a time, one behind the other. -/
def modN (T : Nat → Tx) (D : Prs) (ts : Int) : Nat → Prs
  | 0 => []
  | k + 1 => if (D.getD k (0, 0)).2 ≤ ts then applyN (modN T D ts k) (T (D.getD k (0, 0)).1.toNat).L (T (D.getD k (0, 0)).1.toNat).m else modN T D ts k
/-- Each place is one of nt. -/
def Places (nt : Nat) (D : Prs) : Prop := ∀ k, k < D.length → ∃ p : Nat, p < nt ∧ (D.getD k (0, 0)).1 = p
theorem modN_len {T : Nat → Tx} {D : Prs} {ts : Int} {nt : Nat} (hD : Places nt D) (hm : ∀ i, i < nt → (T i).m ≤ 12) : ∀ k, k ≤ D.length → (modN T D ts k).length ≤ k * 12
  | 0, _ => by simp [modN]
  | k + 1, hk => by
    have := modN_len (ts := ts) hD hm k (by omega)
    obtain ⟨p, hp, e⟩ := hD k (by omega)
    have h2 := hm p hp
    rw [modN]
    split
    · refine Nat.le_trans (applyN_len _ _ _) ?_
      rw [e]
      simp only [Int.toNat_natCast]
      omega
    · omega
theorem modN_rises (T : Nat → Tx) (D : Prs) (ts : Int) : ∀ k, Rises (modN T D ts k)
  | 0 => List.Pairwise.nil
  | k + 1 => by
    rw [modN]
    split
    · exact applyN_rises (modN_rises T D ts k) _ _
    · exact modN_rises T D ts k
theorem donesL_nn (R : Nat → Option Int) : ∀ (k : Nat) (e : Int × Int), e ∈ donesL R k → 0 ≤ e.1
  | 0, e, h => absurd h (by simp [donesL])
  | k + 1, e, h => by
    rw [donesL] at h
    split at h
    · rcases putD_mem h with rfl | q
      · show 0 ≤ (k : Int); omega
      · exact donesL_nn R k e q
    · exact donesL_nn R k e h
theorem donesL_places (R : Nat → Option Int) (nt : Nat) : Places nt (donesL R nt) := fun k hk => by
  have hmem : (donesL R nt).getD k (0, 0) ∈ donesL R nt := by
    rw [List.getD_eq_getElem?_getD, List.getElem?_eq_getElem hk]
    exact List.getElem_mem hk
  have h1 := donesL_lt R nt _ hmem
  have h2 := donesL_nn R nt _ hmem
  exact ⟨((donesL R nt).getD k (0, 0)).1.toNat, by omega, by omega⟩
theorem itemF_kind {k kd v : Int} (h : itemF k kd v = 0) : 1 ≤ kd ∧ kd ≤ 3 := by
  unfold itemF at h
  split at h
  · rename_i q; exact absurd h q
  split at h
  · exact absurd h (by decide)
  · omega
theorem itemsF_all {F : Nat → Int} : ∀ {m k : Nat}, itemsF F m k = 0 → ∀ i, i < m → itemF (F ((k + i) * 3)) (F ((k + i) * 3 + 1)) (F ((k + i) * 3 + 2)) = 0
  | 0, _, _, _, hi => absurd hi (Nat.not_lt_zero _)
  | m + 1, k, h, i, hi => by
    rw [itemsF] at h
    split at h
    · rename_i q; exact absurd h q
    rename_i q
    split at h
    · exact absurd h (by decide)
    cases i with
    | zero => exact Decidable.not_not.1 q
    | succ i =>
      have := itemsF_all h i (by omega)
      rw [show k + (i + 1) = k + 1 + i from by omega]
      exact this
theorem txF_kinds {t : Tx} (h : txF t = 0) : ∀ k, k < t.m → 1 ≤ t.L (k * 3 + 1) ∧ t.L (k * 3 + 1) ≤ 3 := fun k hk => by
  unfold txF txnF at h
  split at h
  · omega
  split at h
  · omega
  split at h
  · rename_i h2; exact absurd h h2
  rename_i h2
  have := itemsF_all (Decidable.not_not.1 h2) k hk
  rw [Nat.zero_add] at this
  exact itemF_kind this
/-- What stands while the items are looked up. -/
def ModE (w : World) (b gd q gx p : Nat) (vt y : Value) (pl : Int) (X : World) : Prop :=
  (X.cell? ⟨b, 5, none⟩ = some vt ∧ X.cell? ⟨gd, q, none⟩ = some (.int .i64 pl) ∧ X.cell? ⟨gx, p, none⟩ = some y) ∧ Below w.heap.size w X
theorem ModE.later {w X X' : World} {b gd q gx p : Nat} {vt y : Value} {pl : Int} (h : ModE w b gd q gx p vt y pl X) (hb : Below X.heap.size X X') : ModE w b gd q gx p vt y pl X' :=
  ⟨⟨(hb.cell (lt_cell h.1.1)).trans h.1.1, (hb.cell (lt_cell h.1.2.1)).trans h.1.2.1, (hb.cell (lt_cell h.1.2.2)).trans h.1.2.2⟩, h.2.trans (hb.mono h.2.size)⟩
set_option maxRecDepth 100000 in
set_option maxHeartbeats 8000000 in
theorem l11Model_is (b : Nat) (nw nx bd : Int) (nr : Nat) (F : Nat → Int) (n : Nat) (S : Nat → Sto) (V : Nat → Nat → Value) (vr vs : Value) (nt : Nat) (T : Nat → Tx) (X : Nat → Value) (vt : Value) (R : Nat → Option Int) (ts : Int) (w : World) (h : LiesD w b nw nx bd nr F n S V vr vs nt T X vt) (hr : nr ≤ 6) (hn : n = nr) (hs : ∀ i, i < n → (S i).nl ≤ 200 ∧ (S i).nw ≤ 200) (hnt : nt ≤ 16) (hit : ∀ i, i < nt → 1 ≤ (T i).m ∧ (T i).m ≤ 12) (hkd : ∀ i, i < nt → ∀ k, k < (T i).m → 1 ≤ (T i).L (k * 3 + 1) ∧ (T i).L (k * 3 + 1) ≤ 3) (hR : ∀ i, i < nt → DoneAt nr F S (T i) (R i)) (M : Prs) (hM : modN T (donesL R nt) ts (donesL R nt).length = M) :
    Calls Tryz.prog 45 #[.pointer (some ⟨b, 0, none⟩), .int .i64 ts] w fun e w' => ∃ ao cp, e = .returned (.slice ao M.length cp) ∧ Own w' w.heap.size 148 2 M.length (rowL M) (.slice ao M.length cp) ∧ Below w.heap.size w w' := by
  obtain ⟨a2, c2, rfl⟩ := h.2.2.form
  have H : Hid (LiesD w b nw nx bd nr F n S V vr vs nt T X (.slice a2 nt c2)) := h
  have HR : Hid (∀ i, i < nt → DoneAt nr F S (T i) (R i)) := hR
  have HIT : Hid ((∀ i, i < nt → 1 ≤ (T i).m ∧ (T i).m ≤ 12) ∧ ∀ i, i < nt → ∀ k, k < (T i).m → 1 ≤ (T i).L (k * 3 + 1) ∧ (T i).L (k * 3 + 1) ≤ 3) := ⟨hit, hkd⟩
  have HS : Hid (∀ i, i < n → (S i).nl ≤ 200 ∧ (S i).nw ≤ 200) := hs
  have p5 : w.cell? ⟨b, 5, none⟩ = some (.slice a2 nt c2) := h.1.1.2.2.2.2.2
  have hb : b < w.heap.size := h.1.lt
  clear h hR hit hkd hs
  go_enter Tryz.func45, Tryz.ntmps45
  go_wp2_with fail
  refine (l11Committed_is _ nw nx bd nr F n S V _ _ nt T X _ R _ (H.out.later (below_alloc _ _)) hr hn HS.out hnt (fun i hi => (HIT.out.1 i hi).1) HR.out).mono ?_
  rintro e w2 ⟨do0, dc, rfl, hd2, q2⟩
  have HP : Hid (Places nt (donesL R nt)) := donesL_places R nt
  have HL : Hid ((donesL R nt).length ≤ 16) := Nat.le_trans (donesL_len R nt) hnt
  obtain ⟨D, hD⟩ : ∃ D, donesL R nt = D := ⟨_, rfl⟩
  rw [hD] at hd2 HP HL hM ⊢
  have hl16 : D.length ≤ 16 := HL.out
  have HM : Hid (modN T D ts D.length = M) := hM
  have O2 : Hid (Row w2 0 2 D.length (rowL D) (.slice do0 D.length dc)) := hd2.row.1.mono (Nat.zero_le _)
  have Q2 : Hid (Below w.heap.size w w2) := (below_alloc w _).trans (q2.mono (by simp))
  have OL : Hid (Own w2 w.heap.size 148 2 0 (rowL []) (.slice (some ⟨w.heap.size, 0, none⟩) 0 0)) := ((OwnM.lit0 w w.heap.size 148 2 rfl).own rfl).later q2
  clear hd2 q2 hD hM HL
  go_wp2
  go_loopw [5, 7] (fun out i wr => ∃ (k : Nat) (ao : Option Addr) (cp : Nat), k ≤ D.length ∧ i = .int .i64 k ∧ out = .slice ao (modN T D ts k).length cp ∧ Hid (Own wr w.heap.size 148 2 (modN T D ts k).length (rowL (modN T D ts k)) (.slice ao (modN T D ts k).length cp)) ∧ Hid (Below w2.heap.size w2 wr)) (fun _ i _ => D.length - (intOf i).toNat)
  case atStart => exact ⟨0, _, _, Nat.zero_le _, rfl, rfl, OL, Below.refl _ _⟩
  case round =>
    obtain ⟨k, ao, cp, hk, rfl, rfl, HO, HB⟩ := hrel
    by_cases hlt : k < D.length
    case neg =>
      obtain rfl : k = D.length := by omega
      rw [HM.out] at HO ⊢
      obtain ⟨LN, hLN⟩ : ∃ LN, M.length = LN := ⟨_, rfl⟩
      have HLN : Hid (M.length = LN) := hLN
      rw [hLN]
      clear hLN
      go_wp2
      refine bodyPost_ret (v := .slice ao LN cp) (by simp [results, Tryz.results45, go_sem]) rfl ?_
      rw [← HLN.out]
      exact ⟨ao, cp, rfl, HO.out, Q2.out.trans (HB.out.mono Q2.out.size)⟩
    obtain ⟨gd, od, hdo, _, hgd, d0, d1⟩ := (O2.out.later HB.out).at2 hlt
    subst hdo
    rw [rowL_key] at d0
    rw [rowL_val] at d1
    obtain ⟨p, hp, hpl⟩ := HP.out k hlt
    obtain ⟨cm, hcm⟩ : ∃ c, (D.getD k (0, 0)).2 = c := ⟨_, rfl⟩
    rw [hpl] at d0
    rw [hcm] at d1
    have HC : Hid ((D.getD k (0, 0)).1 = p ∧ (D.getD k (0, 0)).2 = cm) := ⟨hpl, hcm⟩
    obtain ⟨L, hL⟩ : ∃ L, modN T D ts k = L := ⟨_, rfl⟩
    have hLl : L.length ≤ 192 := by have := modN_len (ts := ts) HP.out (fun i hi => (HIT.out.1 i hi).2) k (by omega); rw [hL] at this; omega
    have HLL : Hid (modN T D ts k = L) := hL
    rw [hL] at HO ⊢
    clear hL hpl hcm
    by_cases hle : cm ≤ ts
    case neg =>
      have d2 : decide (cm ≤ ts) = false := decide_eq_false hle
      have HE : Hid (modN T D ts (k + 1) = L) := by unfold Hid; rw [modN, HC.out.2, if_neg hle]; exact HLL.out
      clear hle HC HLL
      go_wp2
      go_roundw
      case rel => exact ⟨k + 1, ao, cp, by omega, by go_num, by rw [HE.out], by rw [HE.out]; exact HO, HB⟩
      case measure => simp [intOf]; omega
    have d2 : decide (cm ≤ ts) = true := decide_eq_true hle
    obtain ⟨gx, ox, hax, _, hgx, ⟨_, _, _, _, _, x5⟩, hrow, _⟩ := (H.out.2.2.later (Q2.out.trans (HB.out.mono Q2.out.size))).at hp
    subst hax
    have hm12 := (HIT.out.1 p hp).2
    have hkk := HIT.out.2 p hp
    obtain ⟨t, ht⟩ : ∃ t, T p = t := ⟨_, rfl⟩
    rw [ht] at hrow hm12 hkk
    have HKK : Hid (∀ k, k < t.m → 1 ≤ t.L (k * 3 + 1) ∧ t.L (k * 3 + 1) ≤ 3) := hkk
    have HE : Hid (modN T D ts (k + 1) = applyN L t.L t.m) := by unfold Hid; rw [modN, HC.out.2, if_pos hle, HC.out.1, HLL.out]; simp only [Int.toNat_natCast, ht]
    obtain ⟨y, hy⟩ : ∃ y, X p = y := ⟨_, rfl⟩
    rw [hy] at x5 hrow
    obtain ⟨yo, yc, rfl⟩ := hrow.form
    have HRW : Hid (Row wr 0 3 t.m t.L (.slice yo t.m yc)) := hrow
    have b5 := ((Q2.out.trans (HB.out.mono Q2.out.size)).cell (p := ⟨b, 5, none⟩) hb).trans p5
    have hS0 : ModE w b gd (od + k * 2) gx (ox + p * 6 + 5) (.slice (some ⟨gx, ox, none⟩) nt c2) (.slice yo t.m yc) p wr.drew := ⟨⟨b5, d0, x5⟩, (Q2.out.trans (HB.out.mono Q2.out.size)).drew⟩
    have HOd : Hid (Own wr.drew w.heap.size 148 2 L.length (rowL L) (.slice ao L.length cp) ∧ Row wr.drew 0 3 t.m t.L (.slice yo t.m yc) ∧ Below w2.heap.size w2 wr.drew) := ⟨HO.out, HRW.out, HB.out.drew⟩
    have hpn : (p : Int) < (nt : Int) := by omega
    clear hle HC HLL hy ht hkk hrow HO HB HRW b5
    go_wp2_with fail
    refine wp_region_held_drew (S := ModE w b gd (od + k * 2) gx (ox + p * 6 + 5) (.slice (some ⟨gx, ox, none⟩) nt c2) (.slice yo t.m yc) p) (by kernel_rfl) hS0 (fun hS => ?_)
    generalize wr.drew = wa at hS HOd ⊢
    clear hS0 d0 d1 x5
    refine tkH 0 ?_ hS (fun wx hx => ?_) ?_; rotate_left
    · obtain ⟨⟨hx0, hx1, hx2⟩, _⟩ := hx; go_simp; try with_reducible rfl
    refine tkH 1 ?_ hS (fun wx hx => ?_) ?_; rotate_left
    · obtain ⟨⟨hx0, hx1, hx2⟩, _⟩ := hx; go_simp; try with_reducible rfl
    refine tkH 2 ?_ hS (fun wx hx => ?_) ?_; rotate_left
    · obtain ⟨⟨hx0, hx1, hx2⟩, _⟩ := hx; go_simp; try with_reducible rfl
    try simp only [Act.put, List.getElem_toArray, List.getElem_cons_zero, List.getElem_cons_succ, List.setIfInBounds_toArray, List.set_cons_succ, List.set_cons_zero]
    refine tkH 3 ?_ hS (fun wx hx => ?_) ?_; rotate_left
    · obtain ⟨⟨hx0, hx1, hx2⟩, _⟩ := hx; go_simp; try with_reducible rfl
    refine tkH 4 ?_ hS (fun wx hx => ?_) ?_; rotate_left
    · obtain ⟨⟨hx0, hx1, hx2⟩, _⟩ := hx; go_simp; try with_reducible rfl
    refine tkH 5 ?_ hS (fun wx hx => ?_) ?_; rotate_left
    · obtain ⟨⟨hx0, hx1, hx2⟩, _⟩ := hx; go_simp; try with_reducible rfl
    try simp only [Act.put, List.getElem_toArray, List.getElem_cons_zero, List.getElem_cons_succ, List.setIfInBounds_toArray, List.set_cons_succ, List.set_cons_zero]
    refine tkH 6 ?_ hS (fun wx hx => ?_) ?_; rotate_left
    · obtain ⟨⟨hx0, hx1, hx2⟩, _⟩ := hx; go_simp; try with_reducible rfl
    refine tkH 7 ?_ hS (fun wx hx => ?_) ?_; rotate_left
    · obtain ⟨⟨hx0, hx1, hx2⟩, _⟩ := hx; go_simp; try with_reducible rfl
    refine tkH 8 ?_ hS (fun wx hx => ?_) ?_; rotate_left
    · obtain ⟨⟨hx0, hx1, hx2⟩, _⟩ := hx; go_simp; try with_reducible rfl
    try simp only [Act.put, List.getElem_toArray, List.getElem_cons_zero, List.getElem_cons_succ, List.setIfInBounds_toArray, List.set_cons_succ, List.set_cons_zero]
    refine tkH 9 ?_ hS (fun wx hx => ?_) ?_; rotate_left
    · obtain ⟨⟨hx0, hx1, hx2⟩, _⟩ := hx; go_simp; try with_reducible rfl
    refine tkH 10 ?_ hS (fun wx hx => ?_) ?_; rotate_left
    · obtain ⟨⟨hx0, hx1, hx2⟩, _⟩ := hx; go_simp; try with_reducible rfl
    refine tkH 11 ?_ hS (fun wx hx => ?_) ?_; rotate_left
    · obtain ⟨⟨hx0, hx1, hx2⟩, _⟩ := hx; go_simp; try with_reducible rfl
    try simp only [Act.put, List.getElem_toArray, List.getElem_cons_zero, List.getElem_cons_succ, List.setIfInBounds_toArray, List.set_cons_succ, List.set_cons_zero]
    refine tkH 12 ?_ hS (fun wx hx => ?_) ?_; rotate_left
    · obtain ⟨⟨hx0, hx1, hx2⟩, _⟩ := hx; go_simp; try with_reducible rfl
    try simp only [Act.put, List.getElem_toArray, List.getElem_cons_zero, List.getElem_cons_succ, List.setIfInBounds_toArray, List.set_cons_succ, List.set_cons_zero]
    refine rdH 13 (fun K hK => ?_)
    go_simp
    go_wp2_with fail
    refine (l11Apply_any L t.L t.m _ _ _ 0 _ HOd.out.1.row.1 HOd.out.2.1 (by omega) hm12 HKK.out).mono ?_
    rintro e w3 ⟨ao3, cp3, rfl, o3, q3⟩
    rw [← HE.out] at o3 ⊢
    have H3 : Hid (Own w3 w.heap.size 148 2 (modN T D ts (k + 1)).length (rowL (modN T D ts (k + 1))) (.slice ao3 (modN T D ts (k + 1)).length cp3) ∧ Below w2.heap.size w2 w3) := ⟨o3.mono (by have := Q2.out.size; have := HOd.out.2.2.size; omega), HOd.out.2.2.trans (q3.mono HOd.out.2.2.size)⟩
    have hS3 := hS.later q3
    clear o3 q3 HOd
    obtain ⟨LN, hLN⟩ : ∃ LN, (modN T D ts (k + 1)).length = LN := ⟨_, rfl⟩
    have HLN : Hid ((modN T D ts (k + 1)).length = LN) := hLN
    rw [hLN]
    clear hLN
    go_wp2_with fail
    refine hK.out _ _ hS3 (fun hS => ?_)
    clear hK K hS3
    refine tkH 14 ?_ hS (fun wx hx => ?_) ?_; rotate_left
    · obtain ⟨⟨hx0, hx1, hx2⟩, _⟩ := hx; go_simp; try with_reducible rfl
    refine wpAnyH_done (by kernel_rfl) ?_ _
    go_simp
    clear hS
    go_wp2
    go_roundw
    case rel => exact ⟨k + 1, ao3, cp3, by omega, by go_num, by rw [HLN.out], H3.out.1, H3.out.2⟩
    case measure => simp [intOf]; omega
end Go.Proofs.YtglcedhkbbckiaaGreat

namespace Go.Proofs.YtglcedhkbbckiaaGreat
open Go.RowKit

set_option maxRecDepth 100000 in
set_option maxHeartbeats 8000000 in
theorem model_is (x0 : World) (b : Nat) (nw nx bd : Int) (n : Nat) (F : Nat → Int) (S : Nat → Sto) (g : Nat) (P : Nat → Nat) (Bw nt : Nat) (T : Nat → Tx) (Y : Nat → Value) (v : Value) (R : Nat → Option Int) (ts : Int) (h : DonE x0 b nw nx bd n F S g P Bw nt T Y v x0) (hR : ∀ i, i < nt → DoneAt n F S (T i) (R i)) (hn : n ≤ 12) (hnt : nt ≤ 16) (hit : ∀ i, i < nt → 1 ≤ (T i).m ∧ (T i).m ≤ 12) (M : Prs) (hM : modN T (donesL R nt) ts (donesL R nt).length = M) :
    Calls Tryz.prog 55 #[.pointer (some ⟨b, 0, none⟩), .int .i64 ts] x0 fun e x' => e = .returned (.pointer (some ⟨x0.heap.size, 0, none⟩)) ∧ (∃ lo, x0.heap.size < lo ∧ RisL x' x0.heap.size lo M) ∧ Below x0.heap.size x0 x' := by
  obtain ⟨va, vc, rfl⟩ := h.txs.form
  have H0 : Hid (DonE x0 b nw nx bd n F S g P Bw nt T Y (.slice va nt vc) x0) := h
  have HRR : Hid ((∀ i, i < nt → DoneAt n F S (T i) (R i)) ∧ ∀ i, i < nt → 1 ≤ (T i).m ∧ (T i).m ≤ 12) := ⟨hR, hit⟩
  clear h hR hit
  go_enter Tryz.func55, Tryz.ntmps55
  go_wp2_with fail
  refine (filledP_nil _).mono ?_
  rintro e w1 ⟨rfl, r1, q1⟩
  have H1 : Hid (DonE w1 b nw nx bd n F S g P Bw nt T Y (.slice va nt vc) w1) := ⟨Below.refl _ _, H0.out.kb.later q1, H0.out.work.later q1, H0.out.txs.later q1⟩
  have R1 : Hid (Blk2 w1 x0.heap.size (.slice none 0 0) (.func (.func 96) #[] #[]) ∧ Below x0.heap.size x0 w1) := ⟨r1, q1⟩
  clear r1 q1
  go_wp2_with fail
  refine (dones_is w1 b nw nx bd n F S g P Bw nt T Y _ R H1.out HRR.out.1 hn hnt (fun i hi => (HRR.out.2 i hi).1)).mono ?_
  rintro e w2 ⟨do0, dc, rfl, hd2, q2⟩
  have HP : Hid (Places nt (donesL R nt)) := donesL_places R nt
  have hl16 : (donesL R nt).length ≤ 16 := Nat.le_trans (donesL_len R nt) hnt
  obtain ⟨D, hD⟩ : ∃ D, donesL R nt = D := ⟨_, rfl⟩
  rw [hD] at hd2 HP hl16 hM ⊢
  have HM : Hid (modN T D ts D.length = M) := hM
  have O2 : Hid (Own w2 w1.heap.size 85 2 D.length (rowL D) (.slice do0 D.length dc)) := hd2
  have hz : Hid (x0.heap.size < w1.heap.size ∧ w1.heap.size ≤ w2.heap.size) := ⟨R1.out.1.lt, q2.size⟩
  have Q2 : Hid (Below x0.heap.size x0 w2) := R1.out.2.trans (q2.mono R1.out.2.size)
  have L2 : Hid (RisL w2 x0.heap.size w2.heap.size [] ∧ OffB x0.heap.size w2.heap.size w2 w2) := ⟨⟨_, R1.out.1.later q2, Own.nil _ _ _ _ _⟩, OffB.refl _ _ _⟩
  have hlo : x0.heap.size < w2.heap.size := by have := hz.out; omega
  clear hd2 q2 hD hM R1 H1
  obtain ⟨lo, hlq⟩ : ∃ lo, w2.heap.size = lo := ⟨_, rfl⟩
  have hlw : lo ≤ w2.heap.size := by omega
  rw [hlq] at L2 hlo
  have HZ : Hid (w2.heap.size = lo) := hlq
  clear hlq
  go_wp2
  go_loopw [12] (fun i wr => ∃ k : Nat, k ≤ D.length ∧ i = .int .i64 k ∧ Hid (RisL wr x0.heap.size lo (modN T D ts k) ∧ OffB x0.heap.size lo w2 wr)) (fun i _ => D.length - (intOf i).toNat)
  case atStart => exact ⟨0, Nat.zero_le _, rfl, L2⟩
  case round =>
    clear L2
    obtain ⟨k, hk, rfl, HB⟩ := hrel
    by_cases hlt : k < D.length
    case neg =>
      obtain rfl : k = D.length := by omega
      rw [HM.out] at HB
      go_wp2
      go_ret
      exact ⟨rfl, ⟨lo, hlo, HB.out.1⟩, Q2.out.trans HB.out.2.1⟩
    have OD : Own wr w1.heap.size 85 2 D.length (rowL D) (.slice do0 D.length dc) := own_kept O2.out (fun j hj => by
      have h1 := own_in O2.out j hj
      have h2 := hz.out
      have h3 := HZ.out
      exact HB.out.2.2 j (by omega) (by omega))
    obtain ⟨gd, od, hdo, _, hgd, d0, d1⟩ := OD.row.1.at2 hlt
    subst hdo
    rw [rowL_key] at d0
    rw [rowL_val] at d1
    obtain ⟨p, hp, hpl⟩ := HP.out k hlt
    obtain ⟨cm, hcm⟩ : ∃ c, (D.getD k (0, 0)).2 = c := ⟨_, rfl⟩
    rw [hpl] at d0
    rw [hcm] at d1
    have HC : Hid ((D.getD k (0, 0)).1 = p ∧ (D.getD k (0, 0)).2 = cm) := ⟨hpl, hcm⟩
    obtain ⟨L, hL⟩ : ∃ L, modN T D ts k = L := ⟨_, rfl⟩
    have hLl : L.length ≤ 192 := by have := modN_len (ts := ts) HP.out (fun i hi => (HRR.out.2 i hi).2) k (by omega); rw [hL] at this; omega
    have HLL : Hid (modN T D ts k = L ∧ Rises L) := ⟨hL, hL ▸ modN_rises T D ts k⟩
    rw [hL] at HB
    have HA : Hid (∀ o : Obj, RisL (wr.alloc o) x0.heap.size lo L ∧ OffB x0.heap.size lo w2 (wr.alloc o)) := fun o => ⟨HB.out.1.later (below_alloc _ _), HB.out.2.later hlo hlw (below_alloc _ _)⟩
    clear hL hpl hcm OD
    by_cases hle : cm ≤ ts
    case neg =>
      have d2 : decide (cm ≤ ts) = false := decide_eq_false hle
      have HE : Hid (modN T D ts (k + 1) = L) := by unfold Hid; rw [modN, HC.out.2, if_neg hle]; exact HLL.out.1
      clear hle HC HLL HB
      go_wp2
      go_roundw
      case rel => exact ⟨k + 1, by omega, by go_num, by rw [HE.out]; exact HA.out _⟩
      case measure => simp [intOf]; omega
    have d2 : decide (cm ≤ ts) = true := decide_eq_true hle
    have QB : Hid (Below x0.heap.size x0 wr) := Q2.out.trans HB.out.2.1
    obtain ⟨gx, ox, hax, _, hgx, ⟨_, _, _, _, _, x5⟩, hrow, _⟩ := H0.out.txs.at hp
    subst hax
    have hm12 := (HRR.out.2 p hp).2
    obtain ⟨t, ht⟩ : ∃ t, T p = t := ⟨_, rfl⟩
    rw [ht] at hrow hm12
    have HE : Hid (modN T D ts (k + 1) = applyN L t.L t.m) := by unfold Hid; rw [modN, HC.out.2, if_pos hle, HC.out.1, HLL.out.1]; simp only [Int.toNat_natCast, ht]
    obtain ⟨y, hy⟩ : ∃ y, Y p = y := ⟨_, rfl⟩
    rw [hy] at x5 hrow
    obtain ⟨yo, yc, rfl⟩ := hrow.form
    have HRW : Hid (Row x0 0 3 t.m t.L (.slice yo t.m yc)) := hrow
    have hpn : (p : Int) < (nt : Int) := by omega
    have X5 : Hid (gx < x0.heap.size ∧ x0.cell? ⟨gx, ox + p * 6 + 5, none⟩ = some (.slice yo t.m yc)) := ⟨hgx, x5⟩
    have hS0 : Below x0.heap.size x0 (wr.alloc (.cells #[.int .i64 p, .int .i64 cm] 85)).drew := (QB.out.alloc QB.out.size _).drew
    have HW : Hid (RisL (wr.alloc (.cells #[.int .i64 p, .int .i64 cm] 85)).drew x0.heap.size lo L ∧ OffB x0.heap.size lo w2 (wr.alloc (.cells #[.int .i64 p, .int .i64 cm] 85)).drew) := ⟨(HA.out _).1.later (Below.refl _ _).drew, (HA.out _).2.later hlo hlw (Below.refl _ _).drew⟩
    have HZ0 : Hid ((wr.alloc (.cells #[.int .i64 p, .int .i64 cm] 85)).drew.cell? ⟨wr.heap.size, 0, none⟩ = some (.int .i64 p)) := (Blk2.new wr _ _ _).1.1
    clear hle HC ht hy hrow HB HA QB x5
    go_upto_region 6 with fail
    refine wp_region_held_drew (S := fun X : World => Below x0.heap.size x0 X) (by kernel_rfl) hS0 (fun hS => ?_)
    generalize (wr.alloc (.cells #[.int .i64 p, .int .i64 cm] 85)).drew = wa at hS HW HZ0 ⊢
    clear hS0 d0 d1
    refine tkH 0 ?_ hS (fun wx hx => ?_) ?_; rotate_left
    · obtain ⟨⟨hx0, hx1, hx2, hx3, hx4⟩, _⟩ := H0.out.kb.later hx; have hx6 := (hx.cell X5.out.1).trans X5.out.2; go_simp; try with_reducible rfl
    refine tkH 1 ?_ hS (fun wx hx => ?_) ?_; rotate_left
    · obtain ⟨⟨hx0, hx1, hx2, hx3, hx4⟩, _⟩ := H0.out.kb.later hx; have hx6 := (hx.cell X5.out.1).trans X5.out.2; go_simp; try with_reducible rfl
    refine tkH 2 ?_ hS (fun wx hx => ?_) ?_; rotate_left
    · obtain ⟨⟨hx0, hx1, hx2, hx3, hx4⟩, _⟩ := H0.out.kb.later hx; have hx6 := (hx.cell X5.out.1).trans X5.out.2; go_simp; try with_reducible rfl
    try simp only [Act.put, List.getElem_toArray, List.getElem_cons_zero, List.getElem_cons_succ, List.setIfInBounds_toArray, List.set_cons_succ, List.set_cons_zero]
    refine tkH 3 ?_ hS (fun wx hx => ?_) ?_; rotate_left
    · obtain ⟨⟨hx0, hx1, hx2, hx3, hx4⟩, _⟩ := H0.out.kb.later hx; have hx6 := (hx.cell X5.out.1).trans X5.out.2; go_simp; try with_reducible rfl
    refine tkH 4 ?_ hS (fun wx hx => ?_) ?_; rotate_left
    · obtain ⟨⟨hx0, hx1, hx2, hx3, hx4⟩, _⟩ := H0.out.kb.later hx; have hx6 := (hx.cell X5.out.1).trans X5.out.2; go_simp; try with_reducible rfl
    refine tkH 5 ?_ hS (fun wx hx => ?_) ?_; rotate_left
    · obtain ⟨⟨hx0, hx1, hx2, hx3, hx4⟩, _⟩ := H0.out.kb.later hx; have hx6 := (hx.cell X5.out.1).trans X5.out.2; go_simp; try with_reducible rfl
    try simp only [Act.put, List.getElem_toArray, List.getElem_cons_zero, List.getElem_cons_succ, List.setIfInBounds_toArray, List.set_cons_succ, List.set_cons_zero]
    refine rdH 6 (fun K hK => ?_)
    have z0 := HZ0.out
    go_simp
    refine hK.out _ _ hS (fun hS => ?_)
    clear hK K z0
    try simp only [Act.put, List.getElem_toArray, List.getElem_cons_zero, List.getElem_cons_succ, List.setIfInBounds_toArray, List.set_cons_succ, List.set_cons_zero]
    refine tkH 7 ?_ hS (fun wx hx => ?_) ?_; rotate_left
    · obtain ⟨⟨hx0, hx1, hx2, hx3, hx4⟩, _⟩ := H0.out.kb.later hx; have hx6 := (hx.cell X5.out.1).trans X5.out.2; go_simp; try with_reducible rfl
    refine tkH 8 ?_ hS (fun wx hx => ?_) ?_; rotate_left
    · obtain ⟨⟨hx0, hx1, hx2, hx3, hx4⟩, _⟩ := H0.out.kb.later hx; have hx6 := (hx.cell X5.out.1).trans X5.out.2; go_simp; try with_reducible rfl
    try simp only [Act.put, List.getElem_toArray, List.getElem_cons_zero, List.getElem_cons_succ, List.setIfInBounds_toArray, List.set_cons_succ, List.set_cons_zero]
    refine tkH 9 ?_ hS (fun wx hx => ?_) ?_; rotate_left
    · obtain ⟨⟨hx0, hx1, hx2, hx3, hx4⟩, _⟩ := H0.out.kb.later hx; have hx6 := (hx.cell X5.out.1).trans X5.out.2; go_simp; try with_reducible rfl
    try simp only [Act.put, List.getElem_toArray, List.getElem_cons_zero, List.getElem_cons_succ, List.setIfInBounds_toArray, List.set_cons_succ, List.set_cons_zero]
    refine rdH 10 (fun K hK => ?_)
    go_simp
    go_wp2_with fail
    refine (applyTo_lo L t.L t.m x0.heap.size lo hlo _ 0 x0 _ HRW.out hS (Nat.le_refl _) HW.out.1 (Nat.le_trans hlw HW.out.2.1.size) HLL.out.2 (by omega) hm12).mono ?_
    rintro e w3 ⟨rfl, o3, q3⟩
    rw [← HE.out] at o3
    have H3 : Hid (RisL w3 x0.heap.size lo (modN T D ts (k + 1)) ∧ OffB x0.heap.size lo w2 w3) := ⟨o3, HW.out.2.trans q3⟩
    have hS3 : Below x0.heap.size x0 w3 := hS.trans q3.1
    clear o3 q3 HW
    go_wp2_with fail
    refine hK.out _ _ hS3 (fun hS => ?_)
    clear hK K hS3
    refine wpAnyH_done (by kernel_rfl) ?_ _
    go_simp
    clear hS
    go_wp2
    go_roundw
    case rel => exact ⟨k + 1, by omega, by go_num, H3⟩
    case measure => simp [intOf]; omega
end Go.Proofs.YtglcedhkbbckiaaGreat

namespace Go.Proofs.YtglcedhkbbckiaaGreat
open Go.RowKit

theorem world_dones {nw nx bd : Int} {nr : Nat} {F : Nat → Int} {n : Nat} {S : Nat → Sto} {nt : Nat} {T : Nat → Tx} (h : worldF nw nx bd nr F n S nt T = 0) : ∃ R : Nat → Option Int, ∀ i, i < nt → DoneAt nr F S (T i) (R i) := by
  have Z := world_fine h
  have hall : ∀ i, ∃ r, i < nt → DoneAt nr F S (T i) r := fun i => by
    by_cases hi : i < nt
    · obtain ⟨r, hr⟩ := DoneAt.get (S := S) (groupsF_zero Z.1).1 (Z.2.2 i hi).2
      exact ⟨r, fun _ => hr⟩
    · exact ⟨none, fun q => absurd q hi⟩
  exact Classical.axiomOfChoice hall
theorem world_kinds {nw nx bd : Int} {nr : Nat} {F : Nat → Int} {n : Nat} {S : Nat → Sto} {nt : Nat} {T : Nat → Tx} (h : worldF nw nx bd nr F n S nt T = 0) : ∀ i, i < nt → ∀ k, k < (T i).m → 1 ≤ (T i).L (k * 3 + 1) ∧ (T i).L (k * 3 + 1) ≤ 3 := fun i hi => by
  refine txF_kinds ?_
  unfold worldF at h
  split at h
  · omega
  split at h
  · rename_i q; exact absurd h q
  split at h
  · rename_i q; exact absurd h q
  split at h
  · omega
  have := scan_zero h i hi
  unfold placeF at this
  split at this
  · rename_i q; exact absurd this q
  · rename_i q; exact Decidable.not_not.1 q
end Go.Proofs.YtglcedhkbbckiaaGreat

namespace Go.Proofs.YtglcedhkbbckiaaGreat
open Go.RowKit

/-- Whether both lists tell the same of a key. -/
def sameK (A B : Prs) (key : Int) : Bool := decide (lookF A key = lookF B key)
/-- What all of them did up to a time. -/
def modT (T : Nat → Tx) (D : Prs) (ts : Int) : Prs := modN T D ts D.length
/-- Whether the one in place i found what it locked as it was at its start; whether all did. -/
def serT (T : Nat → Tx) (D : Prs) (i : Nat) : Bool :=
  allT (fun k => sameK (modT T D (T (D.getD i (0, 0)).1.toNat).s) (modT T D ((D.getD i (0, 0)).2 - 1)) ((T (D.getD i (0, 0)).1.toNat).L (k * 3))) (T (D.getD i (0, 0)).1.toNat).m
def serB (T : Nat → Tx) (D : Prs) : Bool := allT (serT T D) D.length
/-- Each commit is a time. -/
def Commits (D : Prs) : Prop := ∀ k, k < D.length → 1 ≤ (D.getD k (0, 0)).2 ∧ (D.getD k (0, 0)).2 ≤ 100000
theorem donesL_commit {R : Nat → Option Int} {nt : Nat} (h : ∀ i, i < nt → ∀ c, R i = some c → 1 ≤ c ∧ c ≤ 100000) : ∀ k, k ≤ nt → ∀ e, e ∈ donesL R k → 1 ≤ e.2 ∧ e.2 ≤ 100000
  | 0, _, e, q => absurd q (by simp [donesL])
  | k + 1, hk, e, q => by
    rw [donesL] at q
    split at q
    · rename_i c hc
      rcases putD_mem q with rfl | q
      · exact h k (by omega) c hc
      · exact donesL_commit h k (by omega) e q
    · exact donesL_commit h k (by omega) e q
theorem donesL_commits {R : Nat → Option Int} {nt : Nat} (h : ∀ i, i < nt → ∀ c, R i = some c → 1 ≤ c ∧ c ≤ 100000) : Commits (donesL R nt) := fun k hk => by
  refine donesL_commit h nt (Nat.le_refl _) _ ?_
  rw [List.getD_eq_getElem?_getD, List.getElem?_eq_getElem hk]
  exact List.getElem_mem hk
theorem write_time {S : Sto} (h : storeF S = 0) {i : Nat} (hi : i < S.nw) : 1 ≤ S.k (i * 4 + 1) ∧ S.k (i * 4 + 1) ≤ 100000 := by
  have := scan_zero (storeF_zero h).2.2.2.1 i hi
  unfold writeF at this
  split at this
  · rename_i q; exact absurd this q
  split at this
  · omega
  · omega
theorem DoneAt.time {n : Nat} {F : Nat → Int} {S : Nat → Sto} {t : Tx} {r : Option Int} (h : DoneAt n F S t r) (hS : ∀ j, j < n → storeF (S j) = 0) {c : Int} (hc : r = some c) : 1 ≤ c ∧ c ≤ 100000 := by
  obtain ⟨j, hj, ⟨i, hi, e⟩ | ⟨_, e⟩⟩ := h
  · rw [hc] at e
    obtain rfl := Option.some.inj e
    exact write_time (hS j hj.1) hi.1.1
  · rw [hc] at e
    exact absurd e (by simp)
theorem wrap_less {c : Int} (h : 1 ≤ c ∧ c ≤ 100000) : IntKind.i64.wrap (c - 1) = c - 1 := by
  simp [IntKind.wrap, IntKind.bits, IntKind.signed]
  omega
/-- What find tells is what the model looks up. -/
theorem find_look {L : Prs} (hr : Rises L) {k y z : Int} {r : Bool} (h1 : r = true ↔ atKey L k) (h2 : r = true → (y, z) = L.getD (aheadN L k) (0, 0)) (h3 : r = false → y = 0 ∧ z = 0) : lookF L k = (r, z) ∧ (r = true → y = k) := by
  cases r
  · refine ⟨?_, fun q => absurd q (by decide)⟩
    rw [(h3 rfl).2]
    refine lookF_no fun j hj e => ?_
    have hno : ¬ atKey L k := fun q => Bool.false_ne_true (h1.2 q)
    rcases Nat.lt_or_ge j (aheadN L k) with q | q
    · have := aheadN_lt q; omega
    · have hl : aheadN L k < L.length := by omega
      have h4 := aheadN_not hl
      have h5 : (L.getD (aheadN L k) (0, 0)).1 ≠ k := fun e' => hno ⟨hl, e'⟩
      rcases Nat.lt_or_ge (aheadN L k) j with q' | q'
      · have h6 : (L.getD (aheadN L k) (0, 0)).1 < (L.getD j (0, 0)).1 := by
          rw [List.getD_eq_getElem?_getD, List.getElem?_eq_getElem hl, List.getD_eq_getElem?_getD, List.getElem?_eq_getElem hj]
          exact List.pairwise_iff_getElem.1 hr _ _ hl hj q'
        omega
      · obtain rfl : j = aheadN L k := by omega
        exact h5 e
  · obtain ⟨hl, hk⟩ := h1.1 rfl
    have e := h2 rfl
    refine ⟨?_, fun _ => ?_⟩
    · rw [lookF_at hl (fun j hj q => by have := aheadN_lt hj; omega) hk, ← e]
    · have : y = (L.getD (aheadN L k) (0, 0)).1 := by rw [← e]
      rw [this]; exact hk
theorem eqlPair (x0 x1 y0 y1 : Int) (r : Bool) (hr : decide (x0 = y0 ∧ x1 = y1) = r) (w : World) : (binOp .eql 148 (.agg #[.int .i64 x0, .int .i64 x1]) (.agg #[.int .i64 y0, .int .i64 y1])).run Tryz.prog w = .ok (.bool r) w := by
  have hS : Tryz.prog.underlying 148 = some (.struct (Tryz.prog.fieldsOf 148)) := by kernel_rfl
  have hp : Tryz.prog.stoodInHeld 148 = false := by kernel_rfl
  have u2 := Tryz.underlying2
  have a2 := Tryz.isAgg2
  have z2 := Tryz.sizeOf2
  rw [run_eql_struct, show (10000 : Nat) = 9999 + 1 from rfl, run_equalIn_agg w 9999 _ _ _ hS hp]
  simp only [Program.fieldsOf, Tryz.underlying148]
  subst hr
  go_simp
  by_cases h0 : x0 = y0 <;> by_cases h1 : x1 = y1 <;> simp [h0, h1]
set_option maxRecDepth 100000 in
set_option maxHeartbeats 4000000 in
theorem haveSame_is (A B : Prs) (a b la lb : Nat) (key : Int) (w : World) (hA : RisL w a la A) (hB : RisL w b lb B) (rA : Rises A) (rB : Rises B) (nA : A.length ≤ 1000) (nB : B.length ≤ 1000) :
    Calls Tryz.prog 84 #[.pointer (some ⟨a, 0, none⟩), .pointer (some ⟨b, 0, none⟩), .int .i64 key] w fun e w' => e = .returned (.bool (sameK A B key)) ∧ Below w.heap.size w w' := by
  obtain ⟨va, a1, a2⟩ := hA
  obtain ⟨vb, b1, b2⟩ := hB
  have HA : Hid (Blk2 w a va (.func (.func 96) #[] #[]) ∧ Own w la 148 2 A.length (rowL A) va ∧ Rises A) := ⟨a1, a2, rA⟩
  have HB : Hid (Blk2 w b vb (.func (.func 96) #[] #[]) ∧ Own w lb 148 2 B.length (rowL B) vb ∧ Rises B) := ⟨b1, b2, rB⟩
  clear a1 a2 b1 b2 rA rB
  go_enter Tryz.func84, Tryz.ntmps84
  go_wp2_with fail
  refine (find_any A a la va key 0 _ HA.out.1 HA.out.2.1 HA.out.2.2 nA).mono ?_
  rintro e w1 ⟨r1, y1, z1, rfl, f1, f2, f3, q1⟩
  obtain ⟨l1, k1⟩ := find_look HA.out.2.2 f1 f2 f3
  have HL1 : Hid (lookF A key = (r1, z1) ∧ (r1 = true → y1 = key) ∧ (r1 = false → y1 = 0)) := ⟨l1, k1, fun q => (f3 q).1⟩
  have Q1 : Hid (Blk2 (w1.alloc (.cells #[.int .i64 y1, .int .i64 z1] 148)) w1.heap.size (.int .i64 y1) (.int .i64 z1) ∧ Below w.heap.size w (w1.alloc (.cells #[.int .i64 y1, .int .i64 z1] 148))) := ⟨Blk2.new w1 _ _ _, q1.alloc q1.size _⟩
  clear l1 k1 f1 f2 f3 q1
  go_wp2_with fail
  refine (find_any B b lb vb key 0 _ (HB.out.1.later Q1.out.2) (HB.out.2.1.later Q1.out.2) HB.out.2.2 nB).mono ?_
  rintro e w2 ⟨r2, y2, z2, rfl, f1, f2, f3, q2⟩
  obtain ⟨l2, k2⟩ := find_look HB.out.2.2 f1 f2 f3
  have HL2 : Hid (lookF B key = (r2, z2) ∧ (r2 = true → y2 = key) ∧ (r2 = false → y2 = 0)) := ⟨l2, k2, fun q => (f3 q).1⟩
  have Q2 : Hid (Below w.heap.size w w2) := Q1.out.2.trans (q2.mono Q1.out.2.size)
  obtain ⟨⟨c0, c1⟩, _, _⟩ := Q1.out.1.later q2
  have hl : w1.heap.size < w2.heap.size := (Q1.out.1.later q2).lt
  clear l2 k2 f1 f2 f3 q2 Q1
  cases r1 <;> cases r2
  case true.false =>
    have E : Hid (sameK A B key = false) := by unfold Hid sameK; rw [HL1.out.1, HL2.out.1]; exact decide_eq_false (by simp)
    clear HL1 HL2
    go_wp2
    go_ret
    exact ⟨by rw [E.out]; rfl, Q2.out.alloc Q2.out.size _⟩
  case false.true =>
    have E : Hid (sameK A B key = false) := by unfold Hid sameK; rw [HL1.out.1, HL2.out.1]; exact decide_eq_false (by simp)
    clear HL1 HL2
    go_wp2
    go_ret
    exact ⟨by rw [E.out]; rfl, Q2.out.alloc Q2.out.size _⟩
  all_goals
    obtain rfl : y1 = y2 := by first | rw [HL1.out.2.1 rfl, HL2.out.2.1 rfl] | rw [HL1.out.2.2 rfl, HL2.out.2.2 rfl]
    by_cases ez : z1 = z2
    · subst ez
      have E : Hid (sameK A B key = true) := by unfold Hid sameK; rw [HL1.out.1, HL2.out.1]; exact decide_eq_true rfl
      have hq := eqlPair y1 z1 y1 z1 true (decide_eq_true ⟨rfl, rfl⟩)
      clear HL1 HL2
      go_wp2
      go_ret
      exact ⟨by rw [E.out]; rfl, Q2.out.alloc Q2.out.size _⟩
    · have E : Hid (sameK A B key = false) := by unfold Hid sameK; rw [HL1.out.1, HL2.out.1]; exact decide_eq_false (by simpa using ez)
      have hq := eqlPair y1 z1 y1 z2 false (decide_eq_false (fun q => ez q.2))
      clear HL1 HL2 ez
      go_wp2
      go_ret
      exact ⟨by rw [E.out]; rfl, Q2.out.alloc Q2.out.size _⟩
end Go.Proofs.YtglcedhkbbckiaaGreat

namespace Go.Proofs.YtglcedhkbbckiaaGreat
open Go.RowKit

/-- What stands while a done is looked at: the work in block b, the done in block z, what the transaction is (in its row). -/
def SerE (x0 : World) (z gx q : Nat) (pl cm : Int) (t : Tx) (y : Value) (X : World) : Prop :=
  Below x0.heap.size x0 X ∧ Blk2 X z (.int .i64 pl) (.int .i64 cm) ∧ (X.cell? ⟨gx, q, none⟩ = some (.int .i64 t.s) ∧ X.cell? ⟨gx, q + 1, none⟩ = some (.int .i64 t.c) ∧ X.cell? ⟨gx, q + 2, none⟩ = some (.int .i64 t.u) ∧ X.cell? ⟨gx, q + 3, none⟩ = some (.int .i64 t.st) ∧ X.cell? ⟨gx, q + 4, none⟩ = some (.int .i64 t.a) ∧ X.cell? ⟨gx, q + 5, none⟩ = some y)
theorem SerE.later {x0 : World} {z gx q : Nat} {pl cm : Int} {t : Tx} {y : Value} {X X' : World} (h : SerE x0 z gx q pl cm t y X) (hb : Below X.heap.size X X') : SerE x0 z gx q pl cm t y X' :=
  ⟨h.1.trans (hb.mono h.1.size), h.2.1.later hb, (hb.cell (lt_cell h.2.2.1)).trans h.2.2.1, (hb.cell (lt_cell h.2.2.2.1)).trans h.2.2.2.1, (hb.cell (lt_cell h.2.2.2.2.1)).trans h.2.2.2.2.1, (hb.cell (lt_cell h.2.2.2.2.2.1)).trans h.2.2.2.2.2.1, (hb.cell (lt_cell h.2.2.2.2.2.2.1)).trans h.2.2.2.2.2.2.1, (hb.cell (lt_cell h.2.2.2.2.2.2.2)).trans h.2.2.2.2.2.2.2⟩
/-- What stands behind it: the done in block z, the transaction in block z'. -/
def SerF (x0 : World) (z z' : Nat) (pl cm : Int) (t : Tx) (y : Value) (X : World) : Prop := Below x0.heap.size x0 X ∧ Blk2 X z (.int .i64 pl) (.int .i64 cm) ∧ Blk6 X z' (.int .i64 t.s) (.int .i64 t.c) (.int .i64 t.u) (.int .i64 t.st) (.int .i64 t.a) y
theorem SerF.later {x0 : World} {z z' : Nat} {pl cm : Int} {t : Tx} {y : Value} {X X' : World} (h : SerF x0 z z' pl cm t y X) (hb : Below X.heap.size X X') : SerF x0 z z' pl cm t y X' := ⟨h.1.trans (hb.mono h.1.size), h.2.1.later hb, h.2.2.later hb⟩
set_option maxRecDepth 100000 in
set_option maxHeartbeats 8000000 in
theorem isSerial_is (x0 : World) (b : Nat) (nw nx bd : Int) (n : Nat) (F : Nat → Int) (S : Nat → Sto) (g : Nat) (P : Nat → Nat) (Bw nt : Nat) (T : Nat → Tx) (Y : Nat → Value) (v : Value) (R : Nat → Option Int) (h : DonE x0 b nw nx bd n F S g P Bw nt T Y v x0) (hR : ∀ i, i < nt → DoneAt n F S (T i) (R i)) (hn : n ≤ 12) (hnt : nt ≤ 16) (hit : ∀ i, i < nt → 1 ≤ (T i).m ∧ (T i).m ≤ 12) (hcm : Commits (donesL R nt)) :
    Calls Tryz.prog 47 #[.pointer (some ⟨b, 0, none⟩)] x0 fun e x' => e = .returned (.bool (serB T (donesL R nt))) ∧ Below x0.heap.size x0 x' := by
  obtain ⟨va, vc, rfl⟩ := h.txs.form
  have H0 : Hid (DonE x0 b nw nx bd n F S g P Bw nt T Y (.slice va nt vc) x0) := h
  have HRR : Hid ((∀ i, i < nt → DoneAt n F S (T i) (R i)) ∧ ∀ i, i < nt → 1 ≤ (T i).m ∧ (T i).m ≤ 12) := ⟨hR, hit⟩
  clear h hR hit
  go_enter Tryz.func47, Tryz.ntmps47
  go_wp2_with fail
  refine (dones_is x0 b nw nx bd n F S g P Bw nt T Y _ R H0.out HRR.out.1 hn hnt (fun i hi => (HRR.out.2 i hi).1)).mono ?_
  rintro e w2 ⟨do0, dc, rfl, hd2, q2⟩
  have HP : Hid (Places nt (donesL R nt) ∧ Commits (donesL R nt)) := ⟨donesL_places R nt, hcm⟩
  have hl16 : (donesL R nt).length ≤ 16 := Nat.le_trans (donesL_len R nt) hnt
  obtain ⟨D, hD⟩ : ∃ D, donesL R nt = D := ⟨_, rfl⟩
  have HDD : Hid (donesL R nt = D) := hD
  rw [hD] at hd2 HP hl16 ⊢
  have O2 : Hid (Row w2 0 2 D.length (rowL D) (.slice do0 D.length dc)) := hd2.row.1.mono (Nat.zero_le _)
  have Q2 : Hid (Below x0.heap.size x0 w2) := q2
  clear hd2 q2 hD hcm
  go_wp2
  go_loopw [13] (fun i wr => ∃ k : Nat, k ≤ D.length ∧ i = .int .i64 k ∧ Hid (allT (serT T D) k = true) ∧ Hid (Below w2.heap.size w2 wr)) (fun i _ => D.length - (intOf i).toNat)
  case atStart => exact ⟨0, Nat.zero_le _, rfl, rfl, Below.refl _ _⟩
  case round =>
    obtain ⟨k, hk, rfl, HA, HB⟩ := hrel
    by_cases hlt : k < D.length
    case neg =>
      obtain rfl : k = D.length := by omega
      have E : Hid (serB T D = true) := HA.out
      go_wp2
      go_ret
      exact ⟨by rw [HDD.out, E.out]; rfl, Q2.out.trans (HB.out.mono Q2.out.size)⟩
    obtain ⟨gd, od, hdo, _, hgd, d0, d1⟩ := (O2.out.later HB.out).at2 hlt
    subst hdo
    rw [rowL_key] at d0
    rw [rowL_val] at d1
    obtain ⟨p, hp, hpl⟩ := HP.out.1 k hlt
    have hct := HP.out.2 k hlt
    obtain ⟨cm, hcm⟩ : ∃ c, (D.getD k (0, 0)).2 = c := ⟨_, rfl⟩
    rw [hpl] at d0
    rw [hcm] at d1 hct
    have QB : Hid (Below x0.heap.size x0 wr) := Q2.out.trans (HB.out.mono Q2.out.size)
    obtain ⟨gx, ox, hax, _, hgx, hxs, hrow, _⟩ := (H0.out.txs.later QB.out).at hp
    subst hax
    have hm12 := HRR.out.2 p hp
    obtain ⟨t, ht⟩ : ∃ t, T p = t := ⟨_, rfl⟩
    rw [ht] at hxs hrow hm12
    have HT : Hid (serT T D k = allT (fun q => sameK (modT T D t.s) (modT T D (cm - 1)) (t.L (q * 3))) t.m) := by
      unfold Hid serT
      rw [hpl, hcm, Int.toNat_natCast, ht]
    obtain ⟨y, hy⟩ : ∃ y, Y p = y := ⟨_, rfl⟩
    rw [hy] at hxs hrow
    obtain ⟨yo, yc, rfl⟩ := hrow.form
    have HRW : Hid (Row wr 0 3 t.m t.L (.slice yo t.m yc)) := hrow
    have hpn : (p : Int) < (nt : Int) := by omega
    have hwr := wrap_less hct
    have HMR : Hid ((Rises (modT T D t.s) ∧ (modT T D t.s).length ≤ 1000) ∧ Rises (modT T D (cm - 1)) ∧ (modT T D (cm - 1)).length ≤ 1000) :=
      ⟨⟨modN_rises _ _ _ _, Nat.le_trans (modN_len HP.out.1 (fun i hi => (HRR.out.2 i hi).2) _ (Nat.le_refl _)) (by omega)⟩, modN_rises _ _ _ _, Nat.le_trans (modN_len HP.out.1 (fun i hi => (HRR.out.2 i hi).2) _ (Nat.le_refl _)) (by omega)⟩
    have hS0 : SerE x0 wr.heap.size gx (ox + p * 6) p cm t (.slice yo t.m yc) (wr.alloc (.cells #[.int .i64 p, .int .i64 cm] 85)).drew :=
      SerE.later (X := wr.alloc (.cells #[.int .i64 p, .int .i64 cm] 85)) ⟨QB.out.alloc QB.out.size _, Blk2.new wr _ _ _, ((below_alloc wr _).cell (p := ⟨gx, ox + p * 6, none⟩) hgx).trans hxs.1, ((below_alloc wr _).cell (p := ⟨gx, ox + p * 6 + 1, none⟩) hgx).trans hxs.2.1, ((below_alloc wr _).cell (p := ⟨gx, ox + p * 6 + 2, none⟩) hgx).trans hxs.2.2.1, ((below_alloc wr _).cell (p := ⟨gx, ox + p * 6 + 3, none⟩) hgx).trans hxs.2.2.2.1, ((below_alloc wr _).cell (p := ⟨gx, ox + p * 6 + 4, none⟩) hgx).trans hxs.2.2.2.2.1, ((below_alloc wr _).cell (p := ⟨gx, ox + p * 6 + 5, none⟩) hgx).trans hxs.2.2.2.2.2⟩ (Below.refl _ _).drew
    have HRW2 : Hid (Row (wr.alloc (.cells #[.int .i64 p, .int .i64 cm] 85)).drew 0 3 t.m t.L (.slice yo t.m yc) ∧ Below w2.heap.size w2 (wr.alloc (.cells #[.int .i64 p, .int .i64 cm] 85)).drew) := ⟨HRW.out.later (below_alloc _ _).drew, (HB.out.alloc HB.out.size _).drew⟩
    clear ht hy hrow hxs hpl hcm HRW HB QB
    go_upto_region 4 with fail
    refine wp_region_held_drew (S := SerE x0 wr.heap.size gx (ox + p * 6) p cm t (.slice yo t.m yc)) (by kernel_rfl) hS0 (fun hS => ?_)
    generalize (wr.alloc (.cells #[.int .i64 p, .int .i64 cm] 85)).drew = wa at hS HRW2 ⊢
    clear hS0 d0 d1
    refine tkH 0 ?_ hS (fun wx hx => ?_) ?_; rotate_left
    · obtain ⟨⟨hx0, hx1, hx2, hx3, hx4⟩, _⟩ := H0.out.kb.later hx.1; obtain ⟨⟨hy0, hy1⟩, _⟩ := hx.2.1; obtain ⟨hz0, hz1, hz2, hz3, hz4, hz5⟩ := hx.2.2; go_simp; try with_reducible rfl
    refine tkH 1 ?_ hS (fun wx hx => ?_) ?_; rotate_left
    · obtain ⟨⟨hx0, hx1, hx2, hx3, hx4⟩, _⟩ := H0.out.kb.later hx.1; obtain ⟨⟨hy0, hy1⟩, _⟩ := hx.2.1; obtain ⟨hz0, hz1, hz2, hz3, hz4, hz5⟩ := hx.2.2; go_simp; try with_reducible rfl
    refine tkH 2 ?_ hS (fun wx hx => ?_) ?_; rotate_left
    · obtain ⟨⟨hx0, hx1, hx2, hx3, hx4⟩, _⟩ := H0.out.kb.later hx.1; obtain ⟨⟨hy0, hy1⟩, _⟩ := hx.2.1; obtain ⟨hz0, hz1, hz2, hz3, hz4, hz5⟩ := hx.2.2; go_simp; try with_reducible rfl
    try simp only [Act.put, List.getElem_toArray, List.getElem_cons_zero, List.getElem_cons_succ, List.setIfInBounds_toArray, List.set_cons_succ, List.set_cons_zero]
    refine tkH 3 ?_ hS (fun wx hx => ?_) ?_; rotate_left
    · obtain ⟨⟨hx0, hx1, hx2, hx3, hx4⟩, _⟩ := H0.out.kb.later hx.1; obtain ⟨⟨hy0, hy1⟩, _⟩ := hx.2.1; obtain ⟨hz0, hz1, hz2, hz3, hz4, hz5⟩ := hx.2.2; go_simp; try with_reducible rfl
    refine tkH 4 ?_ hS (fun wx hx => ?_) ?_; rotate_left
    · obtain ⟨⟨hx0, hx1, hx2, hx3, hx4⟩, _⟩ := H0.out.kb.later hx.1; obtain ⟨⟨hy0, hy1⟩, _⟩ := hx.2.1; obtain ⟨hz0, hz1, hz2, hz3, hz4, hz5⟩ := hx.2.2; go_simp; try with_reducible rfl
    refine tkH 5 ?_ hS (fun wx hx => ?_) ?_; rotate_left
    · obtain ⟨⟨hx0, hx1, hx2, hx3, hx4⟩, _⟩ := H0.out.kb.later hx.1; obtain ⟨⟨hy0, hy1⟩, _⟩ := hx.2.1; obtain ⟨hz0, hz1, hz2, hz3, hz4, hz5⟩ := hx.2.2; go_simp; try with_reducible rfl
    try simp only [Act.put, List.getElem_toArray, List.getElem_cons_zero, List.getElem_cons_succ, List.setIfInBounds_toArray, List.set_cons_succ, List.set_cons_zero]
    refine tkH 6 ?_ hS (fun wx hx => ?_) ?_; rotate_left
    · obtain ⟨⟨hx0, hx1, hx2, hx3, hx4⟩, _⟩ := H0.out.kb.later hx.1; obtain ⟨⟨hy0, hy1⟩, _⟩ := hx.2.1; obtain ⟨hz0, hz1, hz2, hz3, hz4, hz5⟩ := hx.2.2; go_simp; try with_reducible rfl
    refine tkH 7 ?_ hS (fun wx hx => ?_) ?_; rotate_left
    · obtain ⟨⟨hx0, hx1, hx2, hx3, hx4⟩, _⟩ := H0.out.kb.later hx.1; obtain ⟨⟨hy0, hy1⟩, _⟩ := hx.2.1; obtain ⟨hz0, hz1, hz2, hz3, hz4, hz5⟩ := hx.2.2; go_simp; try with_reducible rfl
    try simp only [Act.put, List.getElem_toArray, List.getElem_cons_zero, List.getElem_cons_succ, List.setIfInBounds_toArray, List.set_cons_succ, List.set_cons_zero]
    refine rdH 8 (fun K hK => ?_)
    go_simp
    have HS0 : Hid (SerE x0 wr.heap.size gx (ox + p * 6) p cm t (.slice yo t.m yc) wa) := hS
    refine hK.out _ _ (hS.later (below_alloc _ _)) (fun hS => ?_)
    clear hK K
    refine rdH 9 (fun K hK => ?_)
    go_simp
    have HFF : SerF x0 wr.heap.size wa.heap.size p cm t (.slice yo t.m yc) (wa.alloc (.cells #[.int .i64 t.s, .int .i64 t.c, .int .i64 t.u, .int .i64 t.st, .int .i64 t.a, .slice yo t.m yc] 77)) := ⟨HS0.out.1.alloc HS0.out.1.size _, HS0.out.2.1.alloc _, Blk6.new wa _ _ _ _ _ _ _⟩
    have HR3 : Hid (Row (wa.alloc (.cells #[.int .i64 t.s, .int .i64 t.c, .int .i64 t.u, .int .i64 t.st, .int .i64 t.a, .slice yo t.m yc] 77)) 0 3 t.m t.L (.slice yo t.m yc) ∧ Below w2.heap.size w2 (wa.alloc (.cells #[.int .i64 t.s, .int .i64 t.c, .int .i64 t.u, .int .i64 t.st, .int .i64 t.a, .slice yo t.m yc] 77))) := ⟨HRW2.out.1.alloc _, HRW2.out.2.alloc HRW2.out.2.size _⟩
    refine hK.out _ _ (HS0.out.later (below_alloc wa (.cells #[.int .i64 t.s, .int .i64 t.c, .int .i64 t.u, .int .i64 t.st, .int .i64 t.a, .slice yo t.m yc] 77))) (fun hS => ?_)
    clear hK K hS HS0 HRW2
    refine wpAnyH_done (by kernel_rfl) ?_ _
    go_simp
    have HFF0 : Hid (SerF x0 wr.heap.size wa.heap.size p cm t (.slice yo t.m yc) (wa.alloc (.cells #[.int .i64 t.s, .int .i64 t.c, .int .i64 t.u, .int .i64 t.st, .int .i64 t.a, .slice yo t.m yc] 77))) := HFF
    clear HFF
    generalize (wa.alloc (.cells #[.int .i64 t.s, .int .i64 t.c, .int .i64 t.u, .int .i64 t.st, .int .i64 t.a, .slice yo t.m yc] 77)) = wb at HFF0 HR3 ⊢
    go_wp2_with fail
    have hS0 : SerF x0 wr.heap.size wa.heap.size p cm t (.slice yo t.m yc) wb.drew := HFF0.out.later (Below.refl _ _).drew
    have HR4 : Hid (Row wb.drew 0 3 t.m t.L (.slice yo t.m yc) ∧ Below w2.heap.size w2 wb.drew) := ⟨HR3.out.1.later (Below.refl _ _).drew, HR3.out.2.drew⟩
    clear HFF0 HR3
    refine wp_region_held_drew (S := SerF x0 wr.heap.size wa.heap.size p cm t (.slice yo t.m yc)) (by kernel_rfl) hS0 (fun hS => ?_)
    generalize wb.drew = wc at hS HR4 ⊢
    clear hS0
    refine tkH 0 ?_ hS (fun wx hx => ?_) ?_; rotate_left
    · obtain ⟨⟨hx0, hx1, hx2, hx3, hx4⟩, _⟩ := H0.out.kb.later hx.1; obtain ⟨⟨hy0, hy1⟩, _⟩ := hx.2.1; obtain ⟨⟨hz0, hz1, hz2, hz3, hz4, hz5⟩, _⟩ := hx.2.2; go_simp; try with_reducible rfl
    refine tkH 1 ?_ hS (fun wx hx => ?_) ?_; rotate_left
    · obtain ⟨⟨hx0, hx1, hx2, hx3, hx4⟩, _⟩ := H0.out.kb.later hx.1; obtain ⟨⟨hy0, hy1⟩, _⟩ := hx.2.1; obtain ⟨⟨hz0, hz1, hz2, hz3, hz4, hz5⟩, _⟩ := hx.2.2; go_simp; try with_reducible rfl
    refine tkH 2 ?_ hS (fun wx hx => ?_) ?_; rotate_left
    · obtain ⟨⟨hx0, hx1, hx2, hx3, hx4⟩, _⟩ := H0.out.kb.later hx.1; obtain ⟨⟨hy0, hy1⟩, _⟩ := hx.2.1; obtain ⟨⟨hz0, hz1, hz2, hz3, hz4, hz5⟩, _⟩ := hx.2.2; go_simp; try with_reducible rfl
    try simp only [Act.put, List.getElem_toArray, List.getElem_cons_zero, List.getElem_cons_succ, List.setIfInBounds_toArray, List.set_cons_succ, List.set_cons_zero]
    refine tkH 4 ?_ hS (fun wx hx => ?_) ?_; rotate_left
    · obtain ⟨⟨hx0, hx1, hx2, hx3, hx4⟩, _⟩ := H0.out.kb.later hx.1; obtain ⟨⟨hy0, hy1⟩, _⟩ := hx.2.1; obtain ⟨⟨hz0, hz1, hz2, hz3, hz4, hz5⟩, _⟩ := hx.2.2; go_simp; try with_reducible rfl
    refine tkH 5 ?_ hS (fun wx hx => ?_) ?_; rotate_left
    · obtain ⟨⟨hx0, hx1, hx2, hx3, hx4⟩, _⟩ := H0.out.kb.later hx.1; obtain ⟨⟨hy0, hy1⟩, _⟩ := hx.2.1; obtain ⟨⟨hz0, hz1, hz2, hz3, hz4, hz5⟩, _⟩ := hx.2.2; go_simp; try with_reducible rfl
    refine tkH 6 ?_ hS (fun wx hx => ?_) ?_; rotate_left
    · obtain ⟨⟨hx0, hx1, hx2, hx3, hx4⟩, _⟩ := H0.out.kb.later hx.1; obtain ⟨⟨hy0, hy1⟩, _⟩ := hx.2.1; obtain ⟨⟨hz0, hz1, hz2, hz3, hz4, hz5⟩, _⟩ := hx.2.2; go_simp; try with_reducible rfl
    try simp only [Act.put, List.getElem_toArray, List.getElem_cons_zero, List.getElem_cons_succ, List.setIfInBounds_toArray, List.set_cons_succ, List.set_cons_zero]
    refine tkH 7 ?_ hS (fun wx hx => ?_) ?_; rotate_left
    · obtain ⟨⟨hx0, hx1, hx2, hx3, hx4⟩, _⟩ := H0.out.kb.later hx.1; obtain ⟨⟨hy0, hy1⟩, _⟩ := hx.2.1; obtain ⟨⟨hz0, hz1, hz2, hz3, hz4, hz5⟩, _⟩ := hx.2.2; go_simp; try with_reducible rfl
    try simp only [Act.put, List.getElem_toArray, List.getElem_cons_zero, List.getElem_cons_succ, List.setIfInBounds_toArray, List.set_cons_succ, List.set_cons_zero]
    refine rdH 3 (fun K hK => ?_)
    go_simp
    go_wp2_with fail
    refine (model_is wc b nw nx bd n F S g P Bw nt T Y _ R t.s ⟨Below.refl _ _, H0.out.kb.later hS.1, H0.out.work.later hS.1, H0.out.txs.later hS.1⟩ HRR.out.1 hn hnt HRR.out.2 (modT T D t.s) (by rw [HDD.out]; rfl)).mono ?_
    rintro e w3 ⟨rfl, ⟨lA, _, hA3⟩, q3⟩
    have HA3 : Hid (RisL w3 wc.heap.size lA (modT T D t.s) ∧ Row w3 0 3 t.m t.L (.slice yo t.m yc) ∧ Below w2.heap.size w2 w3) := ⟨hA3, HR4.out.1.later q3, HR4.out.2.trans (q3.mono HR4.out.2.size)⟩
    have hS3 := hS.later q3
    clear hA3 q3 HR4
    go_wp2_with fail
    refine hK.out _ _ hS3 (fun hS => ?_)
    clear hK K hS3
    try simp only [Act.put, List.getElem_toArray, List.getElem_cons_zero, List.getElem_cons_succ, List.setIfInBounds_toArray, List.set_cons_succ, List.set_cons_zero]
    refine rdH 8 (fun K hK => ?_)
    go_simp
    go_wp2_with fail
    refine (model_is w3 b nw nx bd n F S g P Bw nt T Y _ R (cm - 1) ⟨Below.refl _ _, H0.out.kb.later hS.1, H0.out.work.later hS.1, H0.out.txs.later hS.1⟩ HRR.out.1 hn hnt HRR.out.2 (modT T D (cm - 1)) (by rw [HDD.out]; rfl)).mono ?_
    rintro e w4 ⟨rfl, ⟨lB, _, hB4⟩, q4⟩
    have HA4 : Hid (RisL w4 wc.heap.size lA (modT T D t.s) ∧ RisL w4 w3.heap.size lB (modT T D (cm - 1)) ∧ Row w4 0 3 t.m t.L (.slice yo t.m yc) ∧ Below w2.heap.size w2 w4) := ⟨HA3.out.1.later q4, hB4, HA3.out.2.1.later q4, HA3.out.2.2.trans (q4.mono HA3.out.2.2.size)⟩
    have hS4 := hS.later q4
    clear hB4 q4 HA3
    go_wp2_with fail
    refine hK.out _ _ hS4 (fun hS => ?_)
    clear hK K hS4
    refine tkH 9 ?_ hS (fun wx hx => ?_) ?_; rotate_left
    · obtain ⟨⟨hx0, hx1, hx2, hx3, hx4⟩, _⟩ := H0.out.kb.later hx.1; obtain ⟨⟨hy0, hy1⟩, _⟩ := hx.2.1; obtain ⟨⟨hz0, hz1, hz2, hz3, hz4, hz5⟩, _⟩ := hx.2.2; go_simp; try with_reducible rfl
    refine tkH 10 ?_ hS (fun wx hx => ?_) ?_; rotate_left
    · obtain ⟨⟨hx0, hx1, hx2, hx3, hx4⟩, _⟩ := H0.out.kb.later hx.1; obtain ⟨⟨hy0, hy1⟩, _⟩ := hx.2.1; obtain ⟨⟨hz0, hz1, hz2, hz3, hz4, hz5⟩, _⟩ := hx.2.2; go_simp; try with_reducible rfl
    refine wpAnyH_done (by kernel_rfl) ?_ _
    go_simp
    have H4 : Hid (SerF x0 wr.heap.size wa.heap.size p cm t (.slice yo t.m yc) w4) := hS
    clear hS
    obtain ⟨⟨z0, z1, z2, z3, z4, z5⟩, _⟩ := H4.out.2.2
    have hm12' : t.m ≤ 12 := hm12.2
    go_wp2
    clear z0 z1 z2 z3 z4 z5 H4
    go_loopw [37] (fun i wq => ∃ q : Nat, q ≤ t.m ∧ i = .int .i64 q ∧ Hid (allT (fun q => sameK (modT T D t.s) (modT T D (cm - 1)) (t.L (q * 3))) q = true) ∧ Hid (Below w4.heap.size w4 wq)) (fun i _ => t.m - (intOf i).toNat)
    case atStart => exact ⟨0, Nat.zero_le _, rfl, rfl, Below.refl _ _⟩
    case round =>
      obtain ⟨q, hq, rfl, HQ, HC⟩ := hrel
      by_cases hlq : q < t.m
      case neg =>
        obtain rfl : q = t.m := by omega
        have HA1 : Hid (allT (serT T D) (k + 1) = true) := allT_go HA.out (HT.out.trans HQ.out)
        have HB1 : Hid (Below w2.heap.size w2 wr) := HA4.out.2.2.2.trans (HC.out.mono HA4.out.2.2.2.size)
        clear HQ HA HT
        go_wp2
        go_roundw
        case rel => exact ⟨k + 1, by omega, by go_num, HA1, HB1⟩
        case measure => simp [intOf]; omega
      obtain ⟨gy, oy, hyo, _, hgy, y0, y1, y2⟩ := (HA4.out.2.2.1.later HC.out).at3 hlq
      subst hyo
      obtain ⟨key, hkey⟩ : ∃ x, t.L (q * 3) = x := ⟨_, rfl⟩
      obtain ⟨kd, hkd⟩ : ∃ x, t.L (q * 3 + 1) = x := ⟨_, rfl⟩
      obtain ⟨vl, hvl⟩ : ∃ x, t.L (q * 3 + 2) = x := ⟨_, rfl⟩
      rw [hkey] at y0
      rw [hkd] at y1
      rw [hvl] at y2
      have HKEY : Hid (t.L (q * 3) = key) := hkey
      clear hkey hkd hvl
      have HD1 : Hid (Below w4.heap.size w4 (wr.alloc (.cells #[.int .i64 key, .int .i64 kd, .int .i64 vl] 90))) := HC.out.alloc HC.out.size _
      go_wp2_with fail
      refine (haveSame_is (modT T D t.s) (modT T D (cm - 1)) wc.heap.size w3.heap.size lA lB key _ (HA4.out.1.later HD1.out) (HA4.out.2.1.later HD1.out) HMR.out.1.1 HMR.out.2.1 HMR.out.1.2 HMR.out.2.2).mono ?_
      obtain ⟨sm, hsm⟩ : ∃ sm, sameK (modT T D t.s) (modT T D (cm - 1)) key = sm := ⟨_, rfl⟩
      rw [hsm]
      rintro e w5 ⟨rfl, q5⟩
      have HSM : Hid (sameK (modT T D t.s) (modT T D (cm - 1)) (t.L (q * 3)) = sm) := by unfold Hid; rw [HKEY.out]; exact hsm
      have H5 : Hid (Below w4.heap.size w4 w5) := HD1.out.trans (q5.mono HD1.out.size)
      clear q5 hsm HD1 HC y0 y1 y2
      cases sm
      · have E : Hid (serB T D = false) := allT_stop (k := k) (HT.out.trans (allT_stop (k := q) HSM.out hlq)) hlt
        clear HSM HQ HA HT
        go_wp2
        go_ret
        exact ⟨by rw [HDD.out, E.out]; rfl, Q2.out.trans ((HA4.out.2.2.2.trans (H5.out.mono HA4.out.2.2.2.size)).mono Q2.out.size)⟩
      · have HQ1 : Hid (allT (fun q => sameK (modT T D t.s) (modT T D (cm - 1)) (t.L (q * 3))) (q + 1) = true) := allT_go HQ.out HSM.out
        clear HSM HQ
        go_wp2
        go_roundw
        case rel => exact ⟨q + 1, by omega, by go_num, HQ1, H5⟩
        case measure => simp [intOf]; omega
end Go.Proofs.YtglcedhkbbckiaaGreat

namespace Go.Proofs.YtglcedhkbbckiaaGreat
open Go.RowKit

/-- What SerialRight answers. -/
def SerAns (nw nx bd : Int) (nr : Nat) (F : Nat → Int) (n : Nat) (S : Nat → Sto) (nt : Nat) (T : Nat → Tx) (r : Bool) : Prop :=
  (worldF nw nx bd nr F n S nt T ≠ 0 ∧ r = false) ∨ (worldF nw nx bd nr F n S nt T = 0 ∧ ∃ R, (∀ i, i < nt → DoneAt nr F S (T i) (R i)) ∧ Commits (donesL R nt) ∧ r = serB T (donesL R nt))
theorem SerAns.get (nw nx bd : Int) (nr : Nat) (F : Nat → Int) (n : Nat) (S : Nat → Sto) (nt : Nat) (T : Nat → Tx) : ∃ r, SerAns nw nx bd nr F n S nt T r := by
  by_cases h : worldF nw nx bd nr F n S nt T = 0
  · have ZG := groupsF_zero (world_fine h).1
    obtain ⟨R, hR⟩ := world_dones h
    exact ⟨_, Or.inr ⟨h, R, hR, donesL_commits (fun i hi c hc => (hR i hi).time (fun j hj => (ZG.2.2.1 j (by rw [ZG.2.1]; exact hj)).1) hc), rfl⟩⟩
  · exact ⟨false, Or.inl ⟨h, rfl⟩⟩
set_option maxRecDepth 100000 in
set_option maxHeartbeats 8000000 in
theorem specSerial_is (nw nx bd : Int) (nr : Nat) (F : Nat → Int) (n : Nat) (S : Nat → Sto) (V : Nat → Nat → Value) (vr vs : Value) (nt : Nat) (T : Nat → Tx) (X : Nat → Value) (vt : Value) (B : Nat) (r : Bool) (w : World) (h : Grs w B nr F n S V vr vs) (hx : Txs w B nt T X vt) (hr : nr ≤ 9223372036854775807) (hn : n ≤ 9223372036854775807) (ht : nt ≤ 9223372036854775807) (hm : ∀ i, i < nt → (T i).m ≤ 9223372036854775807) (hA : SerAns nw nx bd nr F n S nt T r) :
    Calls Tryz.prog 16 #[.agg #[.int .i64 nw, .int .i64 nx, .int .i64 bd, vr, vs, vt]] w fun e w' => e = .returned (.bool r) ∧ Below w.heap.size w w' := by
  obtain ⟨a0, c0, a1, c1, rfl, rfl⟩ := h.form
  obtain ⟨a2, c2, rfl⟩ := hx.form
  have HM : Hid (∀ i, i < nt → (T i).m ≤ 9223372036854775807) := hm
  have H0 : Hid (LiesD (w.alloc (.cells #[.int .i64 nw, .int .i64 nx, .int .i64 bd, .slice a0 nr c0, .slice a1 n c1, .slice a2 nt c2] 42)) w.heap.size nw nx bd nr F n S V (.slice a0 nr c0) (.slice a1 n c1) nt T X (.slice a2 nt c2) ∧ Below w.heap.size w (w.alloc (.cells #[.int .i64 nw, .int .i64 nx, .int .i64 bd, .slice a0 nr c0, .slice a1 n c1, .slice a2 nt c2] 42))) := ⟨⟨Blk6.new w _ _ _ _ _ _ _, (h.mono (Nat.zero_le _)).alloc _, (hx.mono (Nat.zero_le _)).alloc _⟩, below_alloc _ _⟩
  clear h hx hm
  obtain ⟨f, E⟩ : ∃ f, Hid (worldF nw nx bd nr F n S nt T = f) := ⟨_, rfl⟩
  rcases hA with ⟨h1, rfl⟩ | ⟨h1, R, hR, hC, rfl⟩
  · rw [E.out] at h1
    have d : (f != 0) = true := bne_iff_ne.2 h1
    clear h1
    go_enter Tryz.func16, Tryz.ntmps16
    go_wp2_with fail
    refine (l10Fault_any _ nw nx bd nr F n S V _ _ nt T X _ _ H0.out.1 hr hn ht HM.out).mono ?_
    rw [E.out]
    rintro e w1 ⟨rfl, q1⟩
    have HB : Hid (Below w.heap.size w w1) := H0.out.2.trans (q1.mono H0.out.2.size)
    clear q1 H0
    go_wp2
    go_ret
    exact ⟨rfl, HB.out⟩
  have Z := world_fine h1
  have ZG := groupsF_zero Z.1
  have ZK := world_kinds h1
  obtain rfl : f = 0 := E.out.symm.trans h1
  have HR : Hid (∀ i, i < nt → DoneAt nr F S (T i) (R i)) := hR
  have HZ : Hid ((nr ≤ 6 ∧ n = nr) ∧ (∀ i, i < n → (S i).nl ≤ 200 ∧ (S i).nw ≤ 200) ∧ nt ≤ 16 ∧ (∀ i, i < nt → 1 ≤ (T i).m ∧ (T i).m ≤ 12) ∧ ∀ i, i < nt → ∀ k, k < (T i).m → 1 ≤ (T i).L (k * 3 + 1) ∧ (T i).L (k * 3 + 1) ≤ 3) := ⟨⟨ZG.1.n6, ZG.2.1⟩, fun i hi => (storeF_zero (ZG.2.2.1 i hi).1).1.2, Z.2.1, fun i hi => (Z.2.2 i hi).1, ZK⟩
  have HP : Hid (Places nt (donesL R nt) ∧ Commits (donesL R nt)) := ⟨donesL_places R nt, hC⟩
  have hl16 : (donesL R nt).length ≤ 16 := Nat.le_trans (donesL_len R nt) Z.2.1
  clear hR h1 Z ZG ZK hC
  go_enter Tryz.func16, Tryz.ntmps16
  go_wp2_with fail
  refine (l10Fault_any _ nw nx bd nr F n S V _ _ nt T X _ _ H0.out.1 hr hn ht HM.out).mono ?_
  rw [E.out]
  rintro e w1 ⟨rfl, q1⟩
  have H1 : Hid (LiesD w1 w.heap.size nw nx bd nr F n S V (.slice a0 nr c0) (.slice a1 n c1) nt T X (.slice a2 nt c2) ∧ Below w.heap.size w w1) := ⟨H0.out.1.later q1, H0.out.2.trans (q1.mono H0.out.2.size)⟩
  clear q1 H0 HM E hr hn ht
  go_wp2_with fail
  refine (l11Committed_is _ nw nx bd nr F n S V _ _ nt T X _ R _ H1.out.1 HZ.out.1.1 HZ.out.1.2 HZ.out.2.1 HZ.out.2.2.1 (fun i hi => (HZ.out.2.2.2.1 i hi).1) HR.out).mono ?_
  rintro e w2 ⟨do0, dc, rfl, hd2, q2⟩
  obtain ⟨D, hD⟩ : ∃ D, donesL R nt = D := ⟨_, rfl⟩
  have HDD : Hid (donesL R nt = D) := hD
  rw [hD] at hd2 HP hl16 ⊢
  have O2 : Hid (Row w2 0 2 D.length (rowL D) (.slice do0 D.length dc)) := hd2.row.1.mono (Nat.zero_le _)
  have H2 : Hid (Below w1.heap.size w1 w2) := q2
  have hnt16 : nt ≤ 16 := HZ.out.2.2.1
  clear hd2 q2 hD
  go_wp2
  go_loopw [4] (fun i wr => ∃ k : Nat, k ≤ D.length ∧ i = .int .i64 k ∧ Hid (allT (serT T D) k = true) ∧ Hid (Below w2.heap.size w2 wr)) (fun i _ => D.length - (intOf i).toNat)
  case atStart => exact ⟨0, Nat.zero_le _, rfl, rfl, Below.refl _ _⟩
  case round =>
    obtain ⟨k, hk, rfl, HA, HB⟩ := hrel
    by_cases hlt : k < D.length
    case neg =>
      obtain rfl : k = D.length := by omega
      have EE : Hid (serB T D = true) := HA.out
      go_wp2
      go_ret
      exact ⟨by rw [HDD.out, EE.out]; rfl, H1.out.2.trans ((H2.out.trans (HB.out.mono H2.out.size)).mono H1.out.2.size)⟩
    have QB : Hid (Below w1.heap.size w1 wr) := H2.out.trans (HB.out.mono H2.out.size)
    obtain ⟨gd, od, hdo, _, hgd, d0, d1⟩ := (O2.out.later HB.out).at2 hlt
    subst hdo
    rw [rowL_key] at d0
    rw [rowL_val] at d1
    obtain ⟨p, hp, hpl⟩ := HP.out.1 k hlt
    have hct := HP.out.2 k hlt
    obtain ⟨cm, hcm⟩ : ∃ c, (D.getD k (0, 0)).2 = c := ⟨_, rfl⟩
    rw [hpl] at d0
    rw [hcm] at d1 hct
    obtain ⟨gx, ox, hax, _, hgx, ⟨x0, _, _, _, _, x5⟩, hrow, _⟩ := (H1.out.1.2.2.later QB.out).at hp
    subst hax
    have hm12 := HZ.out.2.2.2.1 p hp
    obtain ⟨t, htt⟩ : ∃ t, T p = t := ⟨_, rfl⟩
    rw [htt] at x0 hrow hm12
    have HT : Hid (serT T D k = allT (fun q => sameK (modT T D t.s) (modT T D (cm - 1)) (t.L (q * 3))) t.m) := by
      unfold Hid serT
      rw [hpl, hcm, Int.toNat_natCast, htt]
    obtain ⟨y, hy⟩ : ∃ y, X p = y := ⟨_, rfl⟩
    rw [hy] at x5 hrow
    obtain ⟨yo, yc, rfl⟩ := hrow.form
    have HRW : Hid (Row wr 0 3 t.m t.L (.slice yo t.m yc)) := hrow
    have hpn : (p : Int) < (nt : Int) := by omega
    have hwr := wrap_less hct
    have HMR : Hid ((modT T D t.s).length ≤ 1048576 ∧ (modT T D (cm - 1)).length ≤ 1048576) := ⟨Nat.le_trans (modN_len HP.out.1 (fun i hi => (HZ.out.2.2.2.1 i hi).2) _ (Nat.le_refl _)) (by omega), Nat.le_trans (modN_len HP.out.1 (fun i hi => (HZ.out.2.2.2.1 i hi).2) _ (Nat.le_refl _)) (by omega)⟩
    obtain ⟨⟨⟨_, _, _, _, _, b5⟩, _⟩, _⟩ := H1.out.1.later QB.out
    have hS0 : ModE w1 w.heap.size gd (od + k * 2) gx (ox + p * 6) (.slice (some ⟨gx, ox, none⟩) nt c2) (.int .i64 t.s) p wr.drew := ⟨⟨b5, d0, x0⟩, QB.out.drew⟩
    have HX : Hid (Row wr.drew 0 3 t.m t.L (.slice yo t.m yc) ∧ wr.drew.cell? ⟨gx, ox + p * 6 + 5, none⟩ = some (.slice yo t.m yc) ∧ wr.drew.cell? ⟨gd, od + k * 2 + 1, none⟩ = some (.int .i64 cm) ∧ Below w2.heap.size w2 wr.drew) := ⟨HRW.out, x5, d1, HB.out.drew⟩
    clear htt hy hrow hpl hcm HRW HB QB b5
    go_wp2_with fail
    refine wp_region_held_drew (S := ModE w1 w.heap.size gd (od + k * 2) gx (ox + p * 6) (.slice (some ⟨gx, ox, none⟩) nt c2) (.int .i64 t.s) p) (by kernel_rfl) hS0 (fun hS => ?_)
    generalize wr.drew = wa at hS HX ⊢
    clear hS0 d0 d1 x0 x5
    refine tkH 0 ?_ hS (fun wx hx => ?_) ?_; rotate_left
    · obtain ⟨⟨hx0, hx1, hx2⟩, _⟩ := hx; go_simp; try with_reducible rfl
    refine tkH 1 ?_ hS (fun wx hx => ?_) ?_; rotate_left
    · obtain ⟨⟨hx0, hx1, hx2⟩, _⟩ := hx; go_simp; try with_reducible rfl
    refine tkH 2 ?_ hS (fun wx hx => ?_) ?_; rotate_left
    · obtain ⟨⟨hx0, hx1, hx2⟩, _⟩ := hx; go_simp; try with_reducible rfl
    try simp only [Act.put, List.getElem_toArray, List.getElem_cons_zero, List.getElem_cons_succ, List.setIfInBounds_toArray, List.set_cons_succ, List.set_cons_zero]
    refine tkH 3 ?_ hS (fun wx hx => ?_) ?_; rotate_left
    · obtain ⟨⟨hx0, hx1, hx2⟩, _⟩ := hx; go_simp; try with_reducible rfl
    refine tkH 4 ?_ hS (fun wx hx => ?_) ?_; rotate_left
    · obtain ⟨⟨hx0, hx1, hx2⟩, _⟩ := hx; go_simp; try with_reducible rfl
    refine tkH 5 ?_ hS (fun wx hx => ?_) ?_; rotate_left
    · obtain ⟨⟨hx0, hx1, hx2⟩, _⟩ := hx; go_simp; try with_reducible rfl
    try simp only [Act.put, List.getElem_toArray, List.getElem_cons_zero, List.getElem_cons_succ, List.setIfInBounds_toArray, List.set_cons_succ, List.set_cons_zero]
    refine tkH 6 ?_ hS (fun wx hx => ?_) ?_; rotate_left
    · obtain ⟨⟨hx0, hx1, hx2⟩, _⟩ := hx; go_simp; try with_reducible rfl
    refine tkH 7 ?_ hS (fun wx hx => ?_) ?_; rotate_left
    · obtain ⟨⟨hx0, hx1, hx2⟩, _⟩ := hx; go_simp; try with_reducible rfl
    refine tkH 8 ?_ hS (fun wx hx => ?_) ?_; rotate_left
    · obtain ⟨⟨hx0, hx1, hx2⟩, _⟩ := hx; go_simp; try with_reducible rfl
    refine wpAnyH_done (by kernel_rfl) ?_ _
    go_simp
    have HSA : Hid (ModE w1 w.heap.size gd (od + k * 2) gx (ox + p * 6) (.slice (some ⟨gx, ox, none⟩) nt c2) (.int .i64 t.s) p wa) := hS
    clear hS
    have x0 := HSA.out.1.2.2
    go_wp2_with fail
    refine (l11Model_is _ nw nx bd nr F n S V _ _ nt T X _ R t.s _ (H1.out.1.later HSA.out.2) HZ.out.1.1 HZ.out.1.2 HZ.out.2.1 HZ.out.2.2.1 HZ.out.2.2.2.1 HZ.out.2.2.2.2 HR.out (modT T D t.s) (by rw [HDD.out]; rfl)).mono ?_
    rintro e w3 ⟨aA, cA, rfl, oA, q3⟩
    have HA3 : Hid (Row w3 0 2 (modT T D t.s).length (rowL (modT T D t.s)) (.slice aA (modT T D t.s).length cA) ∧ Below w2.heap.size w2 w3 ∧ Below w1.heap.size w1 w3) := ⟨oA.row.1.mono (Nat.zero_le _), HX.out.2.2.2.trans (q3.mono HX.out.2.2.2.size), HSA.out.2.trans (q3.mono HSA.out.2.size)⟩
    have HX3 : Hid (Row w3 0 3 t.m t.L (.slice yo t.m yc) ∧ w3.cell? ⟨gx, ox + p * 6 + 5, none⟩ = some (.slice yo t.m yc)) := ⟨HX.out.1.later q3, (q3.cell (lt_cell HX.out.2.1)).trans HX.out.2.1⟩
    have d1 := (q3.cell (lt_cell HX.out.2.2.1)).trans HX.out.2.2.1
    clear oA q3 HX HSA x0
    go_wp2_with fail
    refine (l11Model_is _ nw nx bd nr F n S V _ _ nt T X _ R (cm - 1) _ (H1.out.1.later HA3.out.2.2) HZ.out.1.1 HZ.out.1.2 HZ.out.2.1 HZ.out.2.2.1 HZ.out.2.2.2.1 HZ.out.2.2.2.2 HR.out (modT T D (cm - 1)) (by rw [HDD.out]; rfl)).mono ?_
    rintro e w4 ⟨aB, cB, rfl, oB, q4⟩
    have HA4 : Hid (Row w4 0 2 (modT T D t.s).length (rowL (modT T D t.s)) (.slice aA (modT T D t.s).length cA) ∧ Row w4 0 2 (modT T D (cm - 1)).length (rowL (modT T D (cm - 1))) (.slice aB (modT T D (cm - 1)).length cB)) := ⟨HA3.out.1.later q4, oB.row.1.mono (Nat.zero_le _)⟩
    have HX4 : Hid (Row w4 0 3 t.m t.L (.slice yo t.m yc) ∧ w4.cell? ⟨gx, ox + p * 6 + 5, none⟩ = some (.slice yo t.m yc)) := ⟨HX3.out.1.later q4, (q4.cell (lt_cell HX3.out.2)).trans HX3.out.2⟩
    have HB4 : Hid (Below w1.heap.size w1 w4) := HA3.out.2.2.trans (q4.mono HA3.out.2.2.size)
    have HW4 : Hid (Below w2.heap.size w2 w4) := HA3.out.2.1.trans (q4.mono HA3.out.2.1.size)
    clear oB q4 HA3 HX3 d1
    have hm12' : t.m ≤ 12 := hm12.2
    go_wp2
    go_loopw [8] (fun x wr => ∃ q : Nat, q ≤ t.m ∧ x = .int .i64 q ∧ Hid (allT (fun q => sameK (modT T D t.s) (modT T D (cm - 1)) (t.L (q * 3))) q = true) ∧ Hid (Below w4.heap.size w4 wr)) (fun x _ => t.m - (intOf x).toNat)
    case atStart => exact ⟨0, Nat.zero_le _, rfl, rfl, Below.refl _ _⟩
    case round =>
      obtain ⟨q, hq, rfl, HQ, HC⟩ := hrel
      have x5 := (HC.out.cell (lt_cell HX4.out.2)).trans HX4.out.2
      by_cases hlq : q < t.m
      case neg =>
        obtain rfl : q = t.m := by omega
        have HA1 : Hid (allT (serT T D) (k + 1) = true) := allT_go HA.out (HT.out.trans HQ.out)
        have HB1 : Hid (Below w2.heap.size w2 wr) := HW4.out.trans (HC.out.mono HW4.out.size)
        clear HQ HA HT
        go_wp2
        go_roundw
        case rel => exact ⟨k + 1, by omega, by go_num, HA1, HB1⟩
        case measure => simp [intOf]; omega
      obtain ⟨gy, oy, hyo, _, hgy, y0, _, _⟩ := (HX4.out.1.later HC.out).at3 hlq
      subst hyo
      obtain ⟨key, hkey⟩ : ∃ x, t.L (q * 3) = x := ⟨_, rfl⟩
      rw [hkey] at y0
      obtain ⟨g1, v1, hl1⟩ : ∃ g1 v1, lookF (modT T D t.s) key = (g1, v1) := ⟨_, _, rfl⟩
      obtain ⟨g2, v2, hl2⟩ : ∃ g2 v2, lookF (modT T D (cm - 1)) key = (g2, v2) := ⟨_, _, rfl⟩
      have HLL : Hid (sameK (modT T D t.s) (modT T D (cm - 1)) (t.L (q * 3)) = decide ((g1, v1) = (g2, v2))) := by unfold Hid sameK; rw [hkey, hl1, hl2]
      have HL1 : Hid (lookF (modT T D t.s) key = (g1, v1)) := hl1
      have HL2 : Hid (lookF (modT T D (cm - 1)) key = (g2, v2)) := hl2
      clear hkey hl1 hl2
      go_wp2_with fail
      refine (l11Value_any _ _ 0 key _ (HA4.out.1.later HC.out) HMR.out.1).mono ?_
      rw [HL1.out]
      rintro e w5 ⟨rfl, hw5⟩
      obtain rfl := hw5.symm
      go_wp2_with fail
      refine (l11Value_any _ _ 0 key _ (HA4.out.2.later HC.out) HMR.out.2).mono ?_
      rw [HL2.out]
      rintro e w6 ⟨rfl, hw6⟩
      obtain rfl := hw6.symm
      clear HL1 HL2
      cases g1 <;> cases g2
      case false.true =>
        have HSM : sameK (modT T D t.s) (modT T D (cm - 1)) (t.L (q * 3)) = false := HLL.out.trans (decide_eq_false (by simp))
        clear HLL
        have EE : Hid (serB T D = false) := allT_stop (k := k) (HT.out.trans (allT_stop (k := q) HSM hlq)) hlt
        clear HSM HQ HA HT
        go_wp2
        go_ret
        exact ⟨by rw [HDD.out, EE.out]; rfl, H1.out.2.trans ((HB4.out.trans (HC.out.mono HB4.out.size)).mono H1.out.2.size)⟩
      case true.false =>
        have HSM : sameK (modT T D t.s) (modT T D (cm - 1)) (t.L (q * 3)) = false := HLL.out.trans (decide_eq_false (by simp))
        clear HLL
        have EE : Hid (serB T D = false) := allT_stop (k := k) (HT.out.trans (allT_stop (k := q) HSM hlq)) hlt
        clear HSM HQ HA HT
        go_wp2
        go_ret
        exact ⟨by rw [HDD.out, EE.out]; rfl, H1.out.2.trans ((HB4.out.trans (HC.out.mono HB4.out.size)).mono H1.out.2.size)⟩
      all_goals
        by_cases ev : v1 = v2
        · subst ev
          have HSM : sameK (modT T D t.s) (modT T D (cm - 1)) (t.L (q * 3)) = true := HLL.out.trans (decide_eq_true rfl)
          clear HLL
          have HK1 : Hid (allT (fun q => sameK (modT T D t.s) (modT T D (cm - 1)) (t.L (q * 3))) (q + 1) = true) := allT_go HQ.out HSM
          clear HSM HQ
          go_wp2
          go_roundw
          case rel => exact ⟨q + 1, by omega, by go_num, HK1, HC⟩
          case measure => simp [intOf]; omega
        · have HSM : sameK (modT T D t.s) (modT T D (cm - 1)) (t.L (q * 3)) = false := HLL.out.trans (decide_eq_false (by simpa using ev))
          have dv : (v1 != v2) = true := bne_iff_ne.2 ev
          clear HLL ev
          have EE : Hid (serB T D = false) := allT_stop (k := k) (HT.out.trans (allT_stop (k := q) HSM hlq)) hlt
          clear HSM HQ HA HT
          go_wp2
          go_ret
          exact ⟨by rw [HDD.out, EE.out]; rfl, H1.out.2.trans ((HB4.out.trans (HC.out.mono HB4.out.size)).mono H1.out.2.size)⟩
set_option maxRecDepth 100000 in
set_option maxHeartbeats 8000000 in
theorem implSerial_is (nw nx bd : Int) (nr : Nat) (F : Nat → Int) (n : Nat) (S : Nat → Sto) (V : Nat → Nat → Value) (vr vs : Value) (nt : Nat) (T : Nat → Tx) (X : Nat → Value) (vt : Value) (B : Nat) (r : Bool) (w : World) (h : Grs w B nr F n S V vr vs) (hx : Txs w B nt T X vt) (hr : nr ≤ 9223372036854775807) (hn : n ≤ 9223372036854775807) (ht : nt ≤ 9223372036854775807) (hm : ∀ i, i < nt → (T i).m ≤ 9223372036854775807) (hA : SerAns nw nx bd nr F n S nt T r) :
    Calls Tryz.prog 17 #[.agg #[.int .i64 nw, .int .i64 nx, .int .i64 bd, vr, vs, vt]] w fun e w' => e = .returned (.bool r) ∧ Below w.heap.size w w' := by
  obtain ⟨a0, c0, a1, c1, rfl, rfl⟩ := h.form
  obtain ⟨a2, c2, rfl⟩ := hx.form
  have HM : Hid (∀ i, i < nt → (T i).m ≤ 9223372036854775807) := hm
  have H0 : Hid (LiesD (w.alloc (.cells #[.int .i64 nw, .int .i64 nx, .int .i64 bd, .slice a0 nr c0, .slice a1 n c1, .slice a2 nt c2] 42)) w.heap.size nw nx bd nr F n S V (.slice a0 nr c0) (.slice a1 n c1) nt T X (.slice a2 nt c2) ∧ Below w.heap.size w (w.alloc (.cells #[.int .i64 nw, .int .i64 nx, .int .i64 bd, .slice a0 nr c0, .slice a1 n c1, .slice a2 nt c2] 42))) := ⟨⟨Blk6.new w _ _ _ _ _ _ _, (h.mono (Nat.zero_le _)).alloc _, (hx.mono (Nat.zero_le _)).alloc _⟩, below_alloc _ _⟩
  clear h hx hm
  obtain ⟨f, E⟩ : ∃ f, Hid (worldF nw nx bd nr F n S nt T = f) := ⟨_, rfl⟩
  obtain ⟨⟨k0, k1, k2, k3, k4, k5⟩, _⟩ := H0.out.1.1
  rcases hA with ⟨h1, rfl⟩ | ⟨h1, R, hR, hC, rfl⟩
  · rw [E.out] at h1
    have d : (f == 0) = false := beq_eq_false_iff_ne.2 h1
    clear h1
    go_enter Tryz.func17, Tryz.ntmps17
    go_wp2_with fail
    refine (implWorldFault_any nw nx bd nr F n S V _ _ nt T X _ 0 _ H0.out.1.2.1 H0.out.1.2.2 hr hn ht).mono ?_
    rw [E.out]
    rintro e w1 ⟨rfl, q1⟩
    have HB : Hid (Below w.heap.size w w1) := H0.out.2.trans (q1.mono H0.out.2.size)
    clear q1 H0 k0 k1 k2 k3 k4 k5
    go_wp2
    go_ret
    exact ⟨rfl, HB.out⟩
  have Z := world_fine h1
  have ZG := groupsF_zero Z.1
  obtain rfl : f = 0 := E.out.symm.trans h1
  have HQ : Hid ((∀ i, i < nt → DoneAt n F S (T i) (R i)) ∧ Commits (donesL R nt)) := ⟨by rw [ZG.2.1]; exact hR, hC⟩
  have HZ : Hid ((n = nr ∧ n ≤ 12) ∧ (∀ i, i < n → storeF (S i) = 0) ∧ nt ≤ 16 ∧ ∀ i, i < nt → 1 ≤ (T i).m ∧ (T i).m ≤ 12) := ⟨⟨ZG.2.1, by have := ZG.1.n6; have := ZG.2.1; omega⟩, fun i hi => (ZG.2.2.1 i hi).1, Z.2.1, fun i hi => (Z.2.2 i hi).1⟩
  clear hR hC h1 Z ZG
  go_enter Tryz.func17, Tryz.ntmps17
  go_wp2_with fail
  refine (implWorldFault_any nw nx bd nr F n S V _ _ nt T X _ 0 _ H0.out.1.2.1 H0.out.1.2.2 hr hn ht).mono ?_
  rw [E.out]
  rintro e w1 ⟨rfl, q1⟩
  have H1 : Hid (LiesD w1 w.heap.size nw nx bd nr F n S V (.slice a0 nr c0) (.slice a1 n c1) nt T X (.slice a2 nt c2) ∧ Below w.heap.size w w1) := ⟨H0.out.1.later q1, H0.out.2.trans (q1.mono H0.out.2.size)⟩
  clear q1 H0 k0 k1 k2 k3 k4 k5
  obtain ⟨⟨k0, k1, k2, k3, k4, k5⟩, _⟩ := H1.out.1.1
  go_wp2_with fail
  refine (workOn_is nw nx bd nr F n S V _ _ nt T X _ 0 _ H1.out.1.2.1 H1.out.1.2.2 HZ.out.2.1 HZ.out.1.1 HZ.out.1.2 HZ.out.2.2.1 HZ.out.2.2.2).mono ?_
  rintro e w2 ⟨b, B2, g, P, Y, v, rfl, hW⟩
  have HD : Hid (DonE w2 b nw nx bd n F S g P w1.heap.size nt T Y v w2) := ⟨Below.refl _ _, hW.kb, hW.work, hW.txs.txs.mono (Nat.zero_le _)⟩
  have H2 : Hid (Below w.heap.size w w2) := H1.out.2.trans (hW.below.mono H1.out.2.size)
  clear hW H1 k0 k1 k2 k3 k4 k5
  go_wp2_with fail
  refine (isSerial_is w2 b nw nx bd n F S g P w1.heap.size nt T Y v R HD.out HQ.out.1 HZ.out.1.2 HZ.out.2.2.1 HZ.out.2.2.2 HQ.out.2).mono ?_
  obtain ⟨rr, HR⟩ : ∃ rr, Hid (serB T (donesL R nt) = rr) := ⟨_, rfl⟩
  rw [HR.out]
  rintro e w4 ⟨rfl, q4⟩
  have HB : Hid (Below w.heap.size w w4) := H2.out.trans (q4.mono H2.out.size)
  clear q4 H2 HD
  go_wp2
  go_ret
  exact ⟨by rw [HR.out]; rfl, HB.out⟩
set_option maxRecDepth 100000 in
set_option maxHeartbeats 8000000 in
theorem exactSerialRight_walk (nw nx bd : Int) (nr : Nat) (F : Nat → Int) (n : Nat) (S : Nat → Sto) (V : Nat → Nat → Value) (vr vs : Value) (nt : Nat) (T : Nat → Tx) (X : Nat → Value) (vt : Value) (w : World) (h : Grs w 0 nr F n S V vr vs) (hx : Txs w 0 nt T X vt) (hr : nr ≤ 9223372036854775807) (hn : n ≤ 9223372036854775807) (hs : ∀ i, i < n → BigS (S i)) (hnt : nt ≤ 9223372036854775807) (hm : ∀ i, i < nt → (T i).m ≤ 9223372036854775807)
    (ans : ∃ r : Bool, ∀ (U : Nat → Nat → Value) (ur us : Value) (Y : Nat → Value) (ut : Value) (x : World), Grs x 0 nr F n S U ur us → Txs x 0 nt T Y ut → nr ≤ 1048576 → n ≤ 1048576 → nt ≤ 1048576 → (∀ i, i < nt → (T i).m ≤ 1048576) → Calls Tryz.prog 16 #[.agg #[.int .i64 nw, .int .i64 nx, .int .i64 bd, ur, us, ut]] x (fun e x' => e = .returned (.bool r) ∧ Below x.heap.size x x') ∧ Calls Tryz.prog 17 #[.agg #[.int .i64 nw, .int .i64 nx, .int .i64 bd, ur, us, ut]] x (fun e x' => e = .returned (.bool r) ∧ Below x.heap.size x x')) :
    Calls Tryz.prog 5 #[.agg #[.int .i64 nw, .int .i64 nx, .int .i64 bd, vr, vs, vt]] w fun e w' => e = .returned (.bool true) ∧ Below w.heap.size w w' := by
  obtain ⟨a0, c0, a1, c1, rfl, rfl⟩ := h.form
  obtain ⟨a2, c2, rfl⟩ := hx.form
  have HG : Hid (Grs w 0 nr F n S V (.slice a0 nr c0) (.slice a1 n c1) ∧ Txs w 0 nt T X (.slice a2 nt c2)) := ⟨h, hx⟩
  have HN : Hid ((∀ i, i < n → BigS (S i)) ∧ ∀ i, i < nt → (T i).m ≤ 9223372036854775807) := ⟨hs, hm⟩
  have H : Hid (Blk6 (w.alloc (.cells #[.int .i64 nw, .int .i64 nx, .int .i64 bd, .slice a0 nr c0, .slice a1 n c1, .slice a2 nt c2] 30)) w.heap.size (.int .i64 nw) (.int .i64 nx) (.int .i64 bd) (.slice a0 nr c0) (.slice a1 n c1) (.slice a2 nt c2) ∧ Below w.heap.size w (w.alloc (.cells #[.int .i64 nw, .int .i64 nx, .int .i64 bd, .slice a0 nr c0, .slice a1 n c1, .slice a2 nt c2] 30))) := ⟨Blk6.new w _ _ _ _ _ _ _, below_alloc _ _⟩
  clear h hx hs hm
  obtain ⟨r, hans⟩ := ans
  have HF : Hid (∀ (U : Nat → Nat → Value) (ur us : Value) (Y : Nat → Value) (ut : Value) (x : World), Grs x 0 nr F n S U ur us → Txs x 0 nt T Y ut → nr ≤ 1048576 → n ≤ 1048576 → nt ≤ 1048576 → (∀ i, i < nt → (T i).m ≤ 1048576) → Calls Tryz.prog 16 #[.agg #[.int .i64 nw, .int .i64 nx, .int .i64 bd, ur, us, ut]] x (fun e x' => e = .returned (.bool r) ∧ Below x.heap.size x x') ∧ Calls Tryz.prog 17 #[.agg #[.int .i64 nw, .int .i64 nx, .int .i64 bd, ur, us, ut]] x (fun e x' => e = .returned (.bool r) ∧ Below x.heap.size x x')) := hans
  clear hans
  go_enter Tryz.func5, Tryz.ntmps5
  go_wp2_with fail
  refine (szWorld_any nw nx bd nr F n S V _ _ nt T X _ 0 _ (HG.out.1.alloc _) (HG.out.2.alloc _) hr hn HN.out.1 hnt HN.out.2).mono ?_
  rintro e w1 ⟨rr, rfl, hA, q1⟩
  have H1 : Hid (Blk6 w1 w.heap.size (.int .i64 nw) (.int .i64 nx) (.int .i64 bd) (.slice a0 nr c0) (.slice a1 n c1) (.slice a2 nt c2) ∧ Below w.heap.size w w1) := ⟨H.out.1.later q1, H.out.2.trans (q1.mono H.out.2.size)⟩
  clear q1 H
  rcases hA with rfl | ⟨h1, ⟨h2, h3, _, h4⟩, h5, _, h6⟩
  · go_wp2
    go_ret
    exact ⟨rfl, H1.out.2⟩
  have HB : Hid ((nr ≤ 1048576 ∧ n ≤ 1048576 ∧ ∀ i, i < n → SmallS (S i)) ∧ nt ≤ 1048576 ∧ ∀ i, i < nt → (T i).m ≤ 1048576) := ⟨⟨h2, h3, h4⟩, h5, h6⟩
  have dr : decide (rr < 0) = false := decide_eq_false (by omega)
  clear h1 h2 h3 h4 h5 h6 hr hn HN hnt
  obtain ⟨⟨p0, p1, p2, p3, p4, p5⟩, _⟩ := H1.out.1
  go_wp2_with fail
  refine (toWorld_any nw nx bd nr F n S V _ _ nt T X _ 0 _ (HG.out.1.later H1.out.2) (HG.out.2.later H1.out.2) HB.out.1 HB.out.2).mono ?_
  intro e w2 hN2
  obtain ⟨ra, rc, g, U, gt, Y, rfl, g2, t2, q2⟩ := hN2.rows
  have H2 : Hid (Blk6 w2 w.heap.size (.int .i64 nw) (.int .i64 nx) (.int .i64 bd) (.slice a0 nr c0) (.slice a1 n c1) (.slice a2 nt c2) ∧ Below w.heap.size w w2) := ⟨H1.out.1.later q2, H1.out.2.trans (q2.mono H1.out.2.size)⟩
  have G2 := HF.out _ _ _ _ _ _ g2 t2 HB.out.1.1 HB.out.1.2.1 HB.out.2.1 HB.out.2.2
  clear q2 hN2 g2 t2 H1 p0 p1 p2 p3 p4 p5
  go_wp2_with fail
  refine G2.1.mono ?_
  clear G2
  rintro e w3 ⟨rfl, q3⟩
  have H3 : Hid (Blk6 w3 w.heap.size (.int .i64 nw) (.int .i64 nx) (.int .i64 bd) (.slice a0 nr c0) (.slice a1 n c1) (.slice a2 nt c2) ∧ Below w.heap.size w w3) := ⟨H2.out.1.later q3, H2.out.2.trans (q3.mono H2.out.2.size)⟩
  clear q3 H2
  obtain ⟨⟨p0, p1, p2, p3, p4, p5⟩, _⟩ := H3.out.1
  go_wp2_with fail
  refine (toWorld_any nw nx bd nr F n S V _ _ nt T X _ 0 _ (HG.out.1.later H3.out.2) (HG.out.2.later H3.out.2) HB.out.1 HB.out.2).mono ?_
  intro e w4 hN4
  obtain ⟨ra', rc', g', U', gt', Y', rfl, g4, t4, q4⟩ := hN4.rows
  have G4 : Hid (Grs (w4.alloc (.cells #[.int .i64 nw, .int .i64 nx, .int .i64 bd, .slice ra' nr rc', .slice (some ⟨g', 0, none⟩) n n, .slice (some ⟨gt', 0, none⟩) nt nt] 42)) 0 nr F n S U' (.slice ra' nr rc') (.slice (some ⟨g', 0, none⟩) n n) ∧ Txs (w4.alloc (.cells #[.int .i64 nw, .int .i64 nx, .int .i64 bd, .slice ra' nr rc', .slice (some ⟨g', 0, none⟩) n n, .slice (some ⟨gt', 0, none⟩) nt nt] 42)) 0 nt T Y' (.slice (some ⟨gt', 0, none⟩) nt nt)) := ⟨g4.alloc _, t4.alloc _⟩
  have T4 : Hid (TwoD w nw nx bd (.slice a0 nr c0) (.slice a1 n c1) (.slice a2 nt c2) w4.heap.size (.slice ra' nr rc') (.slice (some ⟨g', 0, none⟩) n n) (.slice (some ⟨gt', 0, none⟩) nt nt) (w4.alloc (.cells #[.int .i64 nw, .int .i64 nx, .int .i64 bd, .slice ra' nr rc', .slice (some ⟨g', 0, none⟩) n n, .slice (some ⟨gt', 0, none⟩) nt nt] 42))) := ⟨(H3.out.2.trans (q4.mono H3.out.2.size)).alloc (Nat.le_trans H3.out.2.size q4.size) _, (H3.out.1.later q4).alloc _, Blk6.new _ _ _ _ _ _ _ _⟩
  clear q4 hN4 g4 t4 H3 p0 p1 p2 p3 p4 p5
  go_wp2_with fail
  generalize w4.alloc (.cells #[.int .i64 nw, .int .i64 nx, .int .i64 bd, .slice ra' nr rc', .slice (some ⟨g', 0, none⟩) n n, .slice (some ⟨gt', 0, none⟩) nt nt] 42) = w5 at G4 T4 ⊢
  refine (HF.out _ _ _ _ _ _ G4.out.1 G4.out.2 HB.out.1.1 HB.out.1.2.1 HB.out.2.1 HB.out.2.2).2.mono ?_
  rintro e w6 ⟨rfl, q6⟩
  have G6 : Hid (Grs w6 0 nr F n S U' (.slice ra' nr rc') (.slice (some ⟨g', 0, none⟩) n n) ∧ Txs w6 0 nt T Y' (.slice (some ⟨gt', 0, none⟩) nt nt)) := ⟨G4.out.1.later q6, G4.out.2.later q6⟩
  have T6 : Hid (TwoD w nw nx bd (.slice a0 nr c0) (.slice a1 n c1) (.slice a2 nt c2) w4.heap.size (.slice ra' nr rc') (.slice (some ⟨g', 0, none⟩) n n) (.slice (some ⟨gt', 0, none⟩) nt nt) w6) := T4.out.later q6
  clear q6 G4 T4
  have dq : (r != r) = false := by cases r <;> rfl
  go_wp2_with fail
  refine wp_region_held_drew (S := TwoD w nw nx bd (.slice a0 nr c0) (.slice a1 n c1) (.slice a2 nt c2) w4.heap.size (.slice ra' nr rc') (.slice (some ⟨g', 0, none⟩) n n) (.slice (some ⟨gt', 0, none⟩) nt nt)) (by kernel_rfl) (T6.out.later (Below.drew (Below.refl _ _))) (fun hS => ?_)
  clear T6
  refine tkH 0 ?_ hS (fun wx hx => ?_) ?_; rotate_left
  · obtain ⟨_, ⟨⟨hx0, hx1, hx2, hx3, hx4, hx5⟩, _⟩, ⟨⟨hy0, hy1, hy2, hy3, hy4, hy5⟩, _⟩⟩ := hx; go_simp; try with_reducible rfl
  refine tkH 1 ?_ hS (fun wx hx => ?_) ?_; rotate_left
  · obtain ⟨_, ⟨⟨hx0, hx1, hx2, hx3, hx4, hx5⟩, _⟩, ⟨⟨hy0, hy1, hy2, hy3, hy4, hy5⟩, _⟩⟩ := hx; go_simp; try with_reducible rfl
  refine rdH 2 (fun K hK => ?_)
  go_simp
  go_wp2_with fail
  refine (toWorld_any nw nx bd nr F n S V _ _ nt T X _ 0 _ (HG.out.1.later hS.1) (HG.out.2.later hS.1) HB.out.1 HB.out.2).mono ?_
  intro e w7 hN7
  obtain ⟨rb, rd, g2, U2, gt2, Y2, rfl, g7, t7, q7⟩ := hN7.rows
  have q7' : Below w6.heap.size w6 w7 := ⟨q7.os, q7.tape, q7.output, q7.size, q7.block⟩
  have G7 : Hid ((Grs w7 0 nr F n S U' (.slice ra' nr rc') (.slice (some ⟨g', 0, none⟩) n n) ∧ Txs w7 0 nt T Y' (.slice (some ⟨gt', 0, none⟩) nt nt)) ∧ Grs w7 0 nr F n S U2 (.slice rb nr rd) (.slice (some ⟨g2, 0, none⟩) n n) ∧ Txs w7 0 nt T Y2 (.slice (some ⟨gt2, 0, none⟩) nt nt)) := ⟨⟨G6.out.1.later q7', G6.out.2.later q7'⟩, g7, t7⟩
  have hS' := hS.later q7
  clear q7 q7' hN7 g7 t7 G6
  go_wp2_with fail
  refine hK.out _ _ hS' (fun hS => ?_)
  clear hK K hS'
  refine rdH 3 (fun K hK => ?_)
  go_simp
  go_wp2_with fail
  refine (eqWorldT_same nw nx bd nr F n S U' U2 _ _ _ _ _ _ _ _ nt T Y' Y2 _ _ _ _ 0 0 _ G7.out.1.1 G7.out.2.1 G7.out.1.2 G7.out.2.2 HB.out.1 HB.out.2).mono ?_
  rintro e w8 ⟨rfl, q8⟩
  have hS' := hS.later q8
  clear q8 G7
  go_wp2_with fail
  refine hK.out _ _ hS' (fun hS => ?_)
  clear hK K hS'
  refine tkH 4 ?_ hS (fun wx hx => ?_) ?_; rotate_left
  · obtain ⟨_, ⟨⟨hx0, hx1, hx2, hx3, hx4, hx5⟩, _⟩, ⟨⟨hy0, hy1, hy2, hy3, hy4, hy5⟩, _⟩⟩ := hx; go_simp; try with_reducible rfl
  refine wpAnyH_done (by kernel_rfl) ?_ _
  have BB : Hid (Below w.heap.size w w8) := hS.1
  clear hS
  go_simp
  go_wp2
  go_ret
  exact ⟨rfl, BB.out⟩
theorem serial_walk (nw nx bd : Int) (nr : Nat) (F : Nat → Int) (n : Nat) (S : Nat → Sto) (V : Nat → Nat → Value) (vr vs : Value) (nt : Nat) (T : Nat → Tx) (X : Nat → Value) (vt : Value) (w : World) (h : Grs w 0 nr F n S V vr vs) (hx : Txs w 0 nt T X vt) (hr : nr ≤ 9223372036854775807) (hn : n ≤ 9223372036854775807) (hs : ∀ i, i < n → BigS (S i)) (hnt : nt ≤ 9223372036854775807) (hm : ∀ i, i < nt → (T i).m ≤ 9223372036854775807) :
    Calls Tryz.prog 5 #[.agg #[.int .i64 nw, .int .i64 nx, .int .i64 bd, vr, vs, vt]] w fun e w' => e = .returned (.bool true) ∧ Below w.heap.size w w' := by
  obtain ⟨r, hA⟩ := SerAns.get nw nx bd nr F n S nt T
  exact exactSerialRight_walk nw nx bd nr F n S V vr vs nt T X vt w h hx hr hn hs hnt hm ⟨r, fun U ur us Y ut x q1 q2 b1 b2 b3 b4 =>
    ⟨specSerial_is nw nx bd nr F n S U ur us nt T Y ut 0 r x q1 q2 (by omega) (by omega) (by omega) (fun i hi => by have := b4 i hi; omega) hA, implSerial_is nw nx bd nr F n S U ur us nt T Y ut 0 r x q1 q2 (by omega) (by omega) (by omega) (fun i hi => by have := b4 i hi; omega) hA⟩⟩
end Go.Proofs.YtglcedhkbbckiaaGreat

