/-
  Own text, merged of PaiJ, TreB, TreF, TreJ, PaiK, PaiL, ApyB, DrawA, DrawB, DrawC, DrawT, PaiN, PaiP, PlnA, WldE, PlnB, PlnC, PlnD, PlnE, PlnF.
-/
import Derived.Test.YtlkmcnghdfbapaaPk4
namespace Go.Proofs.Ytlkmcnghdfbapaa
open Go.RowKit

/-- The numbers of a list of pairs, as a list. -/
def flatL : Prs → List Int
  | [] => []
  | e :: t => e.1 :: e.2 :: flatL t
theorem flatL_length : ∀ L, (flatL L).length = L.length * 2
  | [] => rfl
  | e :: t => by simp only [flatL, List.length_cons, flatL_length t]; omega
theorem flatL_append : ∀ (L M : Prs), flatL (L ++ M) = flatL L ++ flatL M
  | [], _ => rfl
  | e :: t, M => by simp only [List.cons_append, flatL, flatL_append t M]
theorem flatL_get : ∀ (L : Prs) (p : Nat), (flatL L).getD p 0 = rowL L p
  | [], p => by simp [flatL, rowL]
  | e :: t, 0 => rfl
  | e :: t, 1 => rfl
  | e :: t, p + 2 => by
    simp only [flatL, List.getD_cons_succ]
    rw [flatL_get t p, rowL, rowL, show (p + 2) % 2 = p % 2 by omega, show (p + 2) / 2 = p / 2 + 1 by omega, List.getD_cons_succ]
theorem ownM_own {w : World} {B : Nat} {v : Value} {L : Prs} (h : OwnM w B 36 2 v L.length (flatL L)) : Own w B 36 2 L.length (rowL L) v := own_eqP (h.own (flatL_length L)) fun p _ => flatL_get L p
theorem own_ownP {w : World} {B : Nat} {v : Value} {L : Prs} (h : Own w B 36 2 L.length (rowL L) v) : OwnM w B 36 2 v L.length (flatL L) := by
  unfold OwnM
  unfold Own at h
  have e : (flatL L).map (Value.int .i64) = vals (rowL L) (L.length * 2) := by
    refine List.ext_getElem? fun p => ?_
    unfold vals
    rw [List.getElem?_map, List.getElem?_map]
    by_cases hp : p < L.length * 2
    · rw [List.getElem?_range hp]
      have h1 := flatL_get L p
      rw [List.getD_eq_getElem?_getD] at h1
      have hp' : p < (flatL L).length := by rw [flatL_length]; exact hp
      rw [List.getElem?_eq_getElem hp'] at h1 ⊢
      simp only [Option.getD_some] at h1
      simp [h1]
    · rw [List.getElem?_eq_none (by rw [flatL_length]; omega), List.getElem?_eq_none (by simp; omega)]
      rfl
  rwa [e]
theorem row_lit2 (w : World) (x0 x1 : Int) (t : TypeId) : Row (w.alloc (.cells #[.int .i64 x0, .int .i64 x1] t)) 0 2 1 (fun p => [x0, x1].getD p 0) (.slice (some ⟨w.heap.size, 0, none⟩) 1 1) := by
  refine ⟨_, _, rfl, fun _ => ⟨w.heap.size, 0, rfl, Nat.zero_le _, by simp, fun p hp => ?_⟩⟩
  rw [Nat.zero_add, World.cell?_alloc_mark]
  match p, hp with
  | 0, _ => rfl
  | 1, _ => rfl
/-- One round of the model's set. -/
def stepS (k x : Int) (q : Prs × Bool) (e : Int × Int) : Prs × Bool :=
  ((if q.2 = false ∧ k ≤ e.1 then q.1 ++ [(k, x)] else q.1) ++ (if e.1 = k then [] else [e]), if k ≤ e.1 then true else q.2)
def accS (L : Prs) (k x : Int) (has : Bool) : Nat → Prs × Bool
  | 0 => ([], !has)
  | i + 1 => stepS k x (accS L k x has i) (L.getD i (0, 0))
/-- What the model's set comes to. -/
def setS (L : Prs) (k x : Int) (has : Bool) : Prs := if (accS L k x has L.length).2 then (accS L k x has L.length).1 else (accS L k x has L.length).1 ++ [(k, x)]
theorem accS_foldl (L : Prs) (k x : Int) (has : Bool) : ∀ i, i ≤ L.length → accS L k x has i = (L.take i).foldl (stepS k x) ([], !has)
  | 0, _ => by simp [accS]
  | i + 1, h => by
    have hg : L.getD i (0, 0) = L[i] := by simp [List.getD, show i < L.length by omega]
    rw [accS, accS_foldl L k x has i (by omega), List.take_succ_eq_append_getElem (by omega), List.foldl_append, hg]
    rfl
theorem fold_done (k x : Int) : ∀ (L o : Prs), L.foldl (stepS k x) (o, true) = (o ++ gonePr L k, true)
  | [], o => by simp [gonePr]
  | e :: t, o => by
    rw [List.foldl_cons]
    have h1 : stepS k x (o, true) e = (o ++ (if e.1 = k then [] else [e]), true) := by simp [stepS]
    rw [h1, fold_done k x t, List.append_assoc]
    congr 2
    unfold gonePr
    by_cases he : e.1 = k
    · rw [if_pos he, List.filter_cons_of_neg (by simp [he])]; rfl
    · rw [if_neg he, List.filter_cons_of_pos (by simp [he])]; rfl
theorem fold_put (k x : Int) : ∀ (L o : Prs), (if (L.foldl (stepS k x) (o, false)).2 then (L.foldl (stepS k x) (o, false)).1 else (L.foldl (stepS k x) (o, false)).1 ++ [(k, x)]) = o ++ putPr L k x
  | [], o => by simp [putPr]
  | e :: t, o => by
    rw [List.foldl_cons]
    by_cases he : k ≤ e.1
    · have h1 : stepS k x (o, false) e = ((o ++ [(k, x)]) ++ (if e.1 = k then [] else [e]), true) := by simp [stepS, he]
      rw [h1, fold_done]
      simp only [if_true]
      rw [putPr, if_pos he]
      have h2 : gonePr (e :: t) k = (if e.1 = k then [] else [e]) ++ gonePr t k := by
        unfold gonePr
        by_cases hk : e.1 = k
        · rw [if_pos hk, List.filter_cons_of_neg (by simp [hk])]; rfl
        · rw [if_neg hk, List.filter_cons_of_pos (by simp [hk])]; rfl
      rw [h2]
      simp
    · have h1 : stepS k x (o, false) e = (o ++ [e], false) := by simp [stepS, he, show ¬ e.1 = k by omega]
      rw [h1, fold_put k x t (o ++ [e]), putPr, if_neg he]
      simp
theorem setS_put (L : Prs) (k x : Int) : setS L k x true = putPr L k x := by
  unfold setS
  rw [accS_foldl L k x true _ (Nat.le_refl _), List.take_length]
  exact fold_put k x L []
theorem setS_gone (L : Prs) (k x : Int) : setS L k x false = gonePr L k := by
  unfold setS
  rw [accS_foldl L k x false _ (Nat.le_refl _), List.take_length]
  show (if (L.foldl (stepS k x) ([], true)).2 = true then (L.foldl (stepS k x) ([], true)).1 else _) = _
  rw [fold_done]
  rfl
theorem accS_len (L : Prs) (k x : Int) (has : Bool) : ∀ i, (accS L k x has i).1.length ≤ i * 2
  | 0 => by simp [accS]
  | i + 1 => by
    have h := accS_len L k x has i
    rw [accS, stepS]
    simp only [List.length_append]
    have h1 : (if (accS L k x has i).2 = false ∧ k ≤ (L.getD i (0, 0)).1 then (accS L k x has i).1 ++ [(k, x)] else (accS L k x has i).1).length ≤ (accS L k x has i).1.length + 1 := by split <;> simp
    have h2 : (if (L.getD i (0, 0)).1 = k then [] else [L.getD i (0, 0)]).length ≤ 1 := by split <;> simp
    omega
/-- What stands while the model sets. -/
def SetE (w : World) (k x : Int) (v : Value) (o : Prs) (X : World) : Prop := OwnM X (w.heap.size + 1) 36 2 v o.length (flatL o) ∧ Blk2 X w.heap.size (.int .i64 k) (.int .i64 x) ∧ Below w.heap.size w X
theorem SetE.push {w X w2 : World} {k x a b : Int} {ao ao1 : Option Addr} {cp cp1 : Nat} {o : Prs} (h : SetE w k x (.slice ao o.length cp) o X) (O2 : OwnM w2 (w.heap.size + 1) 36 2 (.slice ao1 (o.length + 1) cp1) (o.length + 1) (flatL o ++ nums (fun p => [a, b].getD p 0) (1 * 2))) (G2 : (X.alloc (.cells #[.int .i64 a, .int .i64 b] 36)).grownBy w2 (Value.slice ao o.length cp).ownBlock) : SetE w k x (.slice ao1 (o ++ [(a, b)]).length cp1) (o ++ [(a, b)]) w2 := by
  refine ⟨?_, (h.2.1.alloc _).kept (G2.block _ (by have := h.2.1.lt; simp; omega) (fun e => by have := (h.1.block _ e.symm).1; omega)), (h.2.2.alloc h.2.2.size _).grown G2 (by have := h.2.2.size; simp; omega) (fun r e => by have := (h.1.block r e).1; omega)⟩
  rw [List.length_append, flatL_append]
  exact O2
set_option maxRecDepth 100000 in
set_option maxHeartbeats 4000000 in
theorem l11Set_any (L : Prs) (v : Value) (B : Nat) (k x : Int) (has : Bool) (w : World) (h : Row w B 2 L.length (rowL L) v) (hn : L.length ≤ 1000) :
    Calls Try.prog 25 #[v, .agg #[.int .i64 k, .int .i64 x], .bool has] w fun e w' => ∃ ao cp, e = .returned (.slice ao (setS L k x has).length cp) ∧ Own w' w.heap.size 36 2 (setS L k x has).length (rowL (setS L k x has)) (.slice ao (setS L k x has).length cp) ∧ Below w.heap.size w w' := by
  obtain ⟨ao0, cp0, rfl⟩ := h.form
  have H : Hid (Row w B 2 L.length (rowL L) (.slice ao0 L.length cp0)) := h
  clear h
  obtain ⟨i0, hi, iz0, iz1, iz2⟩ := info_parts infoz_Pair
  obtain ⟨R, hR⟩ : ∃ R, setS L k x has = R := ⟨_, rfl⟩
  have HR : Hid (setS L k x has = R) := hR
  rw [hR]
  clear hR
  go_enter Try.func25, Try.ntmps25
  go_wp2
  go_loopw [7, 8, 9] (fun out d i wr => ∃ (j : Nat) (ao : Option Addr) (cp : Nat) (o : Prs) (dn : Bool), j ≤ L.length ∧ i = .int .i64 j ∧ d = .bool dn ∧ out = .slice ao o.length cp ∧ Hid (accS L k x has j = (o, dn)) ∧ Hid (SetE w k x (.slice ao o.length cp) o wr)) (fun _ _ i _ => L.length - (intOf i).toNat)
  case atStart =>
    refine ⟨0, _, _, [], !has, Nat.zero_le _, rfl, rfl, rfl, rfl, OwnM.lit0 _ _ _ _ (by simp), (Blk2.new w _ _ _).alloc _, (below_alloc _ _).alloc (by simp) _⟩
  case round =>
    obtain ⟨j, ao, cp, o, dn, hj, rfl, rfl, rfl, HA, HS⟩ := hrel
    have hol : o.length ≤ 2000 := by
      have := accS_len L k x has j
      rw [HA.out] at this
      simp only at this
      omega
    have hz : w.heap.size < wr.heap.size := HS.out.2.1.lt
    obtain ⟨⟨c0, c1⟩, _, _⟩ := HS.out.2.1
    by_cases hlt : j < L.length
    case neg =>
      obtain rfl : j = L.length := by omega
      cases dn with
      | true =>
        have HE : Hid (R = o) := by
          have := HR.out
          unfold setS at this
          rw [HA.out] at this
          exact (by simpa using this.symm : R = o)
        clear HA HR
        go_wp2
        refine bodyPost_ret (v := .slice ao o.length cp) (by simp [results, Try.results25, go_sem]) rfl ?_
        rw [HE.out]
        exact ⟨ao, cp, rfl, (ownM_own HS.out.1).mono (by omega), HS.out.2.2⟩
      | false =>
        have HE : Hid (R = o ++ [(k, x)]) := by
          have := HR.out
          unfold setS at this
          rw [HA.out] at this
          exact (by simpa using this.symm : R = o ++ [(k, x)])
        clear HA HR
        go_wp2_with (at_builtin; refine wpList_app 36 i0 (.agg #[.int .i64 0, .int .i64 0]) 2 16 rfl _ _ 24 rfl Try.underlying24 hi iz0 iz1 iz2 rfl (by omega) (by omega) _ (w.heap.size + 1) o.length (flatL o) (.slice ao o.length cp) rfl (HS.out.1.later (below_alloc _ _)) 0 1 (fun p => [k, x].getD p 0) (.slice (some ⟨wr.heap.size, 0, none⟩) 1 1) rfl (row_lit2 wr k x 36) (by omega) (by simp; omega) ?_; intro ao1 cp1 w1 O2 G2)
        have HS1 : Hid (SetE w k x (.slice ao1 (o ++ [(k, x)]).length cp1) (o ++ [(k, x)]) w1) := HS.out.push O2 G2
        have hz1 : w.heap.size < w1.heap.size := HS1.out.2.1.lt
        clear O2 G2
        go_wp2
        refine bodyPost_ret (v := .slice ao1 (o ++ [(k, x)]).length cp1) (by simp [results, Try.results25, go_sem]) rfl ?_
        rw [HE.out]
        exact ⟨ao1, cp1, rfl, (ownM_own HS1.out.1).mono (by omega), HS1.out.2.2⟩
    obtain ⟨g, oo, hao, _, hg, yw0, yw1⟩ := H.out.at2 hlt
    subst hao
    obtain ⟨n0, N0⟩ : ∃ x, rowL L (j * 2) = x := ⟨_, rfl⟩
    rw [N0] at yw0
    obtain ⟨n1, N1⟩ : ∃ x, rowL L (j * 2 + 1) = x := ⟨_, rfl⟩
    rw [N1] at yw1
    have HN : Hid (accS L k x has (j + 1) = stepS k x (o, dn) (n0, n1)) := by
      unfold Hid
      rw [accS, HA.out, ← N0, ← N1, rowL_key, rowL_val]
    clear N0 N1 HA HR c0 c1
    have yr0 := (HS.out.2.2.cell (p := ⟨g, oo + j * 2, none⟩) hg).trans yw0
    have yr1 := (HS.out.2.2.cell (p := ⟨g, oo + j * 2 + 1, none⟩) hg).trans yw1
    obtain ⟨⟨cr0, cr1⟩, _, _⟩ := HS.out.2.1
    cases dn with
    | true =>
      by_cases he : n0 = k
      · have HE : Hid (accS L k x has (j + 1) = (o, true)) := by unfold Hid; rw [HN.out]; simp [stepS, he]
        subst he
        clear HN
        go_wp2_with fail
        go_quiet (fail)
        have HSa : Hid (SetE w n0 x (.slice ao (o).length cp) (o) (wr.drewN nq)) := ⟨HS.out.1, HS.out.2.1, below_dn HS.out.2.2 _⟩
        generalize wr.drewN nq = Xa at HSa ⊢
        have hza : w.heap.size < Xa.heap.size := HSa.out.2.1.lt
        have ya0 := (HSa.out.2.2.cell (p := ⟨g, oo + j * 2, none⟩) hg).trans yw0
        have ya1 := (HSa.out.2.2.cell (p := ⟨g, oo + j * 2 + 1, none⟩) hg).trans yw1
        obtain ⟨⟨ca0, ca1⟩, _, _⟩ := HSa.out.2.1
        clear yr0 yr1 cr0 cr1
        go_wp2_with fail
        go_quiet (fail)
        have HSb : Hid (SetE w n0 x (.slice ao (o).length cp) (o) (Xa.drewN nq)) := ⟨HSa.out.1, HSa.out.2.1, below_dn HSa.out.2.2 _⟩
        generalize Xa.drewN nq = Xb at HSb ⊢
        have hzb : w.heap.size < Xb.heap.size := HSb.out.2.1.lt
        have yb0 := (HSb.out.2.2.cell (p := ⟨g, oo + j * 2, none⟩) hg).trans yw0
        have yb1 := (HSb.out.2.2.cell (p := ⟨g, oo + j * 2 + 1, none⟩) hg).trans yw1
        obtain ⟨⟨cb0, cb1⟩, _, _⟩ := HSb.out.2.1
        go_wp2
        go_roundw
        case rel => exact ⟨j + 1, ao, cp, o, true, by omega, by go_num, rfl, by first | rfl | simp, HE, HSb⟩
        case measure => simp [intOf]; omega
      · have HE : Hid (accS L k x has (j + 1) = (o ++ [(n0, n1)], true)) := by unfold Hid; rw [HN.out]; simp [stepS, he]
        have d : (n0 != k) = true := bne_iff_ne.2 he
        clear HN he
        go_wp2_with fail
        go_quiet (fail)
        have HSa : Hid (SetE w k x (.slice ao (o).length cp) (o) (wr.drewN nq)) := ⟨HS.out.1, HS.out.2.1, below_dn HS.out.2.2 _⟩
        generalize wr.drewN nq = Xa at HSa ⊢
        have hza : w.heap.size < Xa.heap.size := HSa.out.2.1.lt
        have ya0 := (HSa.out.2.2.cell (p := ⟨g, oo + j * 2, none⟩) hg).trans yw0
        have ya1 := (HSa.out.2.2.cell (p := ⟨g, oo + j * 2 + 1, none⟩) hg).trans yw1
        obtain ⟨⟨ca0, ca1⟩, _, _⟩ := HSa.out.2.1
        clear yr0 yr1 cr0 cr1
        go_wp2_with fail
        go_quiet (fail)
        have HSb : Hid (SetE w k x (.slice ao (o).length cp) (o) (Xa.drewN nq)) := ⟨HSa.out.1, HSa.out.2.1, below_dn HSa.out.2.2 _⟩
        generalize Xa.drewN nq = Xb at HSb ⊢
        have hzb : w.heap.size < Xb.heap.size := HSb.out.2.1.lt
        have yb0 := (HSb.out.2.2.cell (p := ⟨g, oo + j * 2, none⟩) hg).trans yw0
        have yb1 := (HSb.out.2.2.cell (p := ⟨g, oo + j * 2 + 1, none⟩) hg).trans yw1
        obtain ⟨⟨cb0, cb1⟩, _, _⟩ := HSb.out.2.1
        clear ya0 ya1 ca0 ca1
        go_wp2_with (at_builtin; refine wpList_app 36 i0 (.agg #[.int .i64 0, .int .i64 0]) 2 16 rfl _ _ 24 rfl Try.underlying24 hi iz0 iz1 iz2 rfl (by omega) (by omega) _ (w.heap.size + 1) (o).length (flatL (o)) (.slice ao (o).length cp) rfl (HSb.out.1.later (below_alloc _ _)) 0 1 (fun p => [n0, n1].getD p 0) (.slice (some ⟨Xb.heap.size, 0, none⟩) 1 1) rfl (row_lit2 Xb n0 n1 36) (by simp <;> omega) (by simp; omega) ?_; intro ao1 cp1 w1 O2 G2)
        have HS1 : Hid (SetE w k x (.slice ao1 ((o) ++ [(n0, n1)]).length cp1) ((o) ++ [(n0, n1)]) w1) := HSb.out.push O2 G2
        have hz1 : w.heap.size < w1.heap.size := HS1.out.2.1.lt
        clear O2 G2
        go_wp2
        go_roundw
        case rel => exact ⟨j + 1, ao1, cp1, o ++ [(n0, n1)], true, by omega, by go_num, rfl, by first | rfl | simp, HE, HS1⟩
        case measure => simp [intOf]; omega
    | false =>
      by_cases hle : k ≤ n0
      · have dg : decide (n0 ≥ k) = true := decide_eq_true hle
        by_cases he : n0 = k
        · have HE : Hid (accS L k x has (j + 1) = (o ++ [(k, x)], true)) := by unfold Hid; rw [HN.out]; simp [stepS, he]
          subst he
          clear HN hle
          go_wp2_with fail
          go_quiet (fail)
          have HSa : Hid (SetE w n0 x (.slice ao (o).length cp) (o) (wr.drewN nq)) := ⟨HS.out.1, HS.out.2.1, below_dn HS.out.2.2 _⟩
          generalize wr.drewN nq = Xa at HSa ⊢
          have hza : w.heap.size < Xa.heap.size := HSa.out.2.1.lt
          have ya0 := (HSa.out.2.2.cell (p := ⟨g, oo + j * 2, none⟩) hg).trans yw0
          have ya1 := (HSa.out.2.2.cell (p := ⟨g, oo + j * 2 + 1, none⟩) hg).trans yw1
          obtain ⟨⟨ca0, ca1⟩, _, _⟩ := HSa.out.2.1
          clear yr0 yr1 cr0 cr1
          go_wp2_with (at_builtin; refine wpList_app 36 i0 (.agg #[.int .i64 0, .int .i64 0]) 2 16 rfl _ _ 24 rfl Try.underlying24 hi iz0 iz1 iz2 rfl (by omega) (by omega) _ (w.heap.size + 1) (o).length (flatL (o)) (.slice ao (o).length cp) rfl (HSa.out.1.later (below_alloc _ _)) 0 1 (fun p => [n0, x].getD p 0) (.slice (some ⟨Xa.heap.size, 0, none⟩) 1 1) rfl (row_lit2 Xa n0 x 36) (by simp <;> omega) (by simp; omega) ?_; intro ao1 cp1 w1 O2 G2)
          have HS1 : Hid (SetE w n0 x (.slice ao1 ((o) ++ [(n0, x)]).length cp1) ((o) ++ [(n0, x)]) w1) := HSa.out.push O2 G2
          have hz1 : w.heap.size < w1.heap.size := HS1.out.2.1.lt
          clear O2 G2
          clear ya0 ya1 ca0 ca1
          have ys0 := (HS1.out.2.2.cell (p := ⟨g, oo + j * 2, none⟩) hg).trans yw0
          have ys1 := (HS1.out.2.2.cell (p := ⟨g, oo + j * 2 + 1, none⟩) hg).trans yw1
          obtain ⟨⟨cs0, cs1⟩, _, _⟩ := HS1.out.2.1
          go_wp2_with fail
          go_quiet (fail)
          have HSb : Hid (SetE w n0 x (.slice ao1 (o ++ [(n0, x)]).length cp1) (o ++ [(n0, x)]) (w1.drewN nq)) := ⟨HS1.out.1, HS1.out.2.1, below_dn HS1.out.2.2 _⟩
          generalize w1.drewN nq = Xb at HSb ⊢
          have hzb : w.heap.size < Xb.heap.size := HSb.out.2.1.lt
          have yb0 := (HSb.out.2.2.cell (p := ⟨g, oo + j * 2, none⟩) hg).trans yw0
          have yb1 := (HSb.out.2.2.cell (p := ⟨g, oo + j * 2 + 1, none⟩) hg).trans yw1
          obtain ⟨⟨cb0, cb1⟩, _, _⟩ := HSb.out.2.1
          go_wp2
          go_roundw
          case rel => exact ⟨j + 1, ao1, cp1, o ++ [(n0, x)], true, by omega, by go_num, rfl, by first | rfl | simp, HE, HSb⟩
          case measure => simp [intOf]; omega
        · have HE : Hid (accS L k x has (j + 1) = ((o ++ [(k, x)]) ++ [(n0, n1)], true)) := by unfold Hid; rw [HN.out]; simp [stepS, he, hle]
          have d : (n0 != k) = true := bne_iff_ne.2 he
          clear HN hle he
          go_wp2_with fail
          go_quiet (fail)
          have HSa : Hid (SetE w k x (.slice ao (o).length cp) (o) (wr.drewN nq)) := ⟨HS.out.1, HS.out.2.1, below_dn HS.out.2.2 _⟩
          generalize wr.drewN nq = Xa at HSa ⊢
          have hza : w.heap.size < Xa.heap.size := HSa.out.2.1.lt
          have ya0 := (HSa.out.2.2.cell (p := ⟨g, oo + j * 2, none⟩) hg).trans yw0
          have ya1 := (HSa.out.2.2.cell (p := ⟨g, oo + j * 2 + 1, none⟩) hg).trans yw1
          obtain ⟨⟨ca0, ca1⟩, _, _⟩ := HSa.out.2.1
          clear yr0 yr1 cr0 cr1
          go_wp2_with (at_builtin; refine wpList_app 36 i0 (.agg #[.int .i64 0, .int .i64 0]) 2 16 rfl _ _ 24 rfl Try.underlying24 hi iz0 iz1 iz2 rfl (by omega) (by omega) _ (w.heap.size + 1) (o).length (flatL (o)) (.slice ao (o).length cp) rfl (HSa.out.1.later (below_alloc _ _)) 0 1 (fun p => [k, x].getD p 0) (.slice (some ⟨Xa.heap.size, 0, none⟩) 1 1) rfl (row_lit2 Xa k x 36) (by simp <;> omega) (by simp; omega) ?_; intro ao1 cp1 w1 O2 G2)
          have HS1 : Hid (SetE w k x (.slice ao1 ((o) ++ [(k, x)]).length cp1) ((o) ++ [(k, x)]) w1) := HSa.out.push O2 G2
          have hz1 : w.heap.size < w1.heap.size := HS1.out.2.1.lt
          clear O2 G2
          clear ya0 ya1 ca0 ca1
          have ys0 := (HS1.out.2.2.cell (p := ⟨g, oo + j * 2, none⟩) hg).trans yw0
          have ys1 := (HS1.out.2.2.cell (p := ⟨g, oo + j * 2 + 1, none⟩) hg).trans yw1
          obtain ⟨⟨cs0, cs1⟩, _, _⟩ := HS1.out.2.1
          go_wp2_with fail
          go_quiet (fail)
          have HSb : Hid (SetE w k x (.slice ao1 (o ++ [(k, x)]).length cp1) (o ++ [(k, x)]) (w1.drewN nq)) := ⟨HS1.out.1, HS1.out.2.1, below_dn HS1.out.2.2 _⟩
          generalize w1.drewN nq = Xb at HSb ⊢
          have hzb : w.heap.size < Xb.heap.size := HSb.out.2.1.lt
          have yb0 := (HSb.out.2.2.cell (p := ⟨g, oo + j * 2, none⟩) hg).trans yw0
          have yb1 := (HSb.out.2.2.cell (p := ⟨g, oo + j * 2 + 1, none⟩) hg).trans yw1
          obtain ⟨⟨cb0, cb1⟩, _, _⟩ := HSb.out.2.1
          clear ys0 ys1 cs0 cs1
          have e1 : (o ++ [(k, x)]).length = o.length + 1 := by simp
          go_wp2_with (at_builtin; refine wpList_app 36 i0 (.agg #[.int .i64 0, .int .i64 0]) 2 16 rfl _ _ 24 rfl Try.underlying24 hi iz0 iz1 iz2 rfl (by omega) (by omega) _ (w.heap.size + 1) (o.length + 1) (flatL (o ++ [(k, x)])) (.slice ao1 (o.length + 1) cp1) rfl (by have q := HSb.out.1.later (below_alloc _ (.cells #[.int .i64 n0, .int .i64 n1] 36)); rw [e1] at q; exact q) 0 1 (fun p => [n0, n1].getD p 0) (.slice (some ⟨Xb.heap.size, 0, none⟩) 1 1) rfl (row_lit2 Xb n0 n1 36) (by simp <;> omega) (by simp; omega) ?_; intro ao2 cp2 w2 O2 G2)
          have HS2 : Hid (SetE w k x (.slice ao2 ((o ++ [(k, x)]) ++ [(n0, n1)]).length cp2) ((o ++ [(k, x)]) ++ [(n0, n1)]) w2) := HSb.out.push (by rw [e1]; exact O2) (by rw [e1]; exact G2)
          have hz3 : w.heap.size < w2.heap.size := HS2.out.2.1.lt
          clear O2 G2
          go_wp2
          go_roundw
          case rel => exact ⟨j + 1, ao2, cp2, (o ++ [(k, x)]) ++ [(n0, n1)], true, by omega, by go_num, rfl, by first | rfl | simp, HE, HS2⟩
          case measure => simp [intOf]; omega
      · have dg : decide (n0 ≥ k) = false := decide_eq_false hle
        have he : n0 ≠ k := by omega
        have HE : Hid (accS L k x has (j + 1) = (o ++ [(n0, n1)], false)) := by unfold Hid; rw [HN.out]; simp [stepS, he, hle]
        have d : (n0 != k) = true := bne_iff_ne.2 he
        clear HN hle he
        go_wp2_with fail
        go_quiet (fail)
        have HSa : Hid (SetE w k x (.slice ao (o).length cp) (o) (wr.drewN nq)) := ⟨HS.out.1, HS.out.2.1, below_dn HS.out.2.2 _⟩
        generalize wr.drewN nq = Xa at HSa ⊢
        have hza : w.heap.size < Xa.heap.size := HSa.out.2.1.lt
        have ya0 := (HSa.out.2.2.cell (p := ⟨g, oo + j * 2, none⟩) hg).trans yw0
        have ya1 := (HSa.out.2.2.cell (p := ⟨g, oo + j * 2 + 1, none⟩) hg).trans yw1
        obtain ⟨⟨ca0, ca1⟩, _, _⟩ := HSa.out.2.1
        clear yr0 yr1 cr0 cr1
        go_wp2_with fail
        go_quiet (fail)
        have HSb : Hid (SetE w k x (.slice ao (o).length cp) (o) (Xa.drewN nq)) := ⟨HSa.out.1, HSa.out.2.1, below_dn HSa.out.2.2 _⟩
        generalize Xa.drewN nq = Xb at HSb ⊢
        have hzb : w.heap.size < Xb.heap.size := HSb.out.2.1.lt
        have yb0 := (HSb.out.2.2.cell (p := ⟨g, oo + j * 2, none⟩) hg).trans yw0
        have yb1 := (HSb.out.2.2.cell (p := ⟨g, oo + j * 2 + 1, none⟩) hg).trans yw1
        obtain ⟨⟨cb0, cb1⟩, _, _⟩ := HSb.out.2.1
        clear ya0 ya1 ca0 ca1
        go_wp2_with (at_builtin; refine wpList_app 36 i0 (.agg #[.int .i64 0, .int .i64 0]) 2 16 rfl _ _ 24 rfl Try.underlying24 hi iz0 iz1 iz2 rfl (by omega) (by omega) _ (w.heap.size + 1) (o).length (flatL (o)) (.slice ao (o).length cp) rfl (HSb.out.1.later (below_alloc _ _)) 0 1 (fun p => [n0, n1].getD p 0) (.slice (some ⟨Xb.heap.size, 0, none⟩) 1 1) rfl (row_lit2 Xb n0 n1 36) (by simp <;> omega) (by simp; omega) ?_; intro ao1 cp1 w1 O2 G2)
        have HS1 : Hid (SetE w k x (.slice ao1 ((o) ++ [(n0, n1)]).length cp1) ((o) ++ [(n0, n1)]) w1) := HSb.out.push O2 G2
        have hz1 : w.heap.size < w1.heap.size := HS1.out.2.1.lt
        clear O2 G2
        go_wp2
        go_roundw
        case rel => exact ⟨j + 1, ao1, cp1, o ++ [(n0, n1)], false, by omega, by go_num, rfl, by first | rfl | simp, HE, HS1⟩
        case measure => simp [intOf]; omega
end Go.Proofs.Ytlkmcnghdfbapaa

namespace Go.Proofs.Ytlkmcnghdfbapaa
open Go.RowKit

theorem Own.keptT {w w' : World} {B : Nat} {e : TypeId} {m n : Nat} {F : Nat → Int} {v : Value} (h : Own w B e m n F v) (hb : ∀ k, v.ownBlock = some k → w'.heap[k]? = w.heap[k]?) : Own w' B e m n F v := by
  refine ⟨h.1, ?_⟩
  rcases h.2 with q | ⟨g, cap, cur, rfl, hg, hw, r⟩
  · exact Or.inl q
  · exact Or.inr ⟨g, cap, cur, rfl, hg, (hb g rfl).trans hw, r⟩
end Go.Proofs.Ytlkmcnghdfbapaa

namespace Go.Proofs.Ytlkmcnghdfbapaa
open Go.RowKit

theorem Off.later {w w' : World} {b mb : Nat} {vr : Value} {k : Nat} (h : Off w b mb vr k) (hs : w.heap.size ≤ w'.heap.size) : Off w' b mb vr k := ⟨Nat.lt_of_lt_of_le h.1 hs, h.2⟩
/-- The box of a view: it is kept. -/
def Box (w : World) (b mb : Nat) (vz : Value) (hb : Nat) (lv : Value) : Prop := Blk2 w hb (.pointer (some ⟨b, 0, none⟩)) lv ∧ Off w b mb vz hb
theorem Box.later {w w' : World} {b mb hb : Nat} {vz lv : Value} (h : Box w b mb vz hb lv) (hq : Below w.heap.size w w') : Box w' b mb vz hb lv := ⟨h.1.later hq, h.2.later hq.size⟩
theorem Box.keeps {w w' : World} {b mb hb : Nat} {vz vy lv : Value} (h : Box w b mb vz hb lv) (hk : Keeps w w' b mb vz vy) : Box w' b mb vy hb lv := ⟨h.1.kept (hk.off h.2).2, (hk.off h.2).1⟩
end Go.Proofs.Ytlkmcnghdfbapaa

namespace Go.Proofs.Ytlkmcnghdfbapaa
open Go.RowKit

theorem lookF_val {L : Prs} (hv : ∀ e ∈ L, 0 ≤ e.2 ∧ e.2 ≤ 9999) (k : Int) : 0 ≤ (lookF L k).2 ∧ (lookF L k).2 ≤ 9999 := by
  unfold lookF
  split
  · rename_i e he
    exact hv e (List.mem_of_find?_eq_some he)
  · exact ⟨Int.le_refl _, by decide⟩
theorem pairs_vals {F : Nat → Int} {n : Nat} (h : pairsF F n 0 = 0) : ∀ e ∈ listOf F n, 0 ≤ e.2 ∧ e.2 ≤ 9999 := by
  intro e he
  unfold listOf at he
  obtain ⟨k, hk, rfl⟩ := List.mem_map.1 he
  have := pairsF_all h k (List.mem_range.1 hk)
  rw [Nat.zero_add] at this
  exact (pairF_zero this).2.1
end Go.Proofs.Ytlkmcnghdfbapaa

namespace Go.Proofs.Ytlkmcnghdfbapaa
open Go.RowKit

/-- What is told of an item that is applied. -/
def appF (k kd v : Int) : Int := if faultOf k ≠ 0 then faultOf k else if ¬ (1 ≤ kd ∧ kd ≤ 3) ∨ ¬ (0 ≤ v ∧ v ≤ 9999) then 3 else 0
def appsF (G : Nat → Int) : Nat → Nat → Int
  | 0, _ => 0
  | m + 1, k => if appF (G (k * 3)) (G (k * 3 + 1)) (G (k * 3 + 2)) ≠ 0 then appF (G (k * 3)) (G (k * 3 + 1)) (G (k * 3 + 2)) else appsF G m (k + 1)
theorem appsF_all {G : Nat → Int} : ∀ {m k : Nat}, appsF G m k = 0 → ∀ j, j < m → appF (G ((k + j) * 3)) (G ((k + j) * 3 + 1)) (G ((k + j) * 3 + 2)) = 0
  | 0, _, _, j, hj => absurd hj (Nat.not_lt_zero j)
  | m + 1, k, h, j, hj => by
    by_cases h0 : appF (G (k * 3)) (G (k * 3 + 1)) (G (k * 3 + 2)) = 0
    · rw [appsF, if_neg (fun q => q h0)] at h
      cases j with
      | zero => exact h0
      | succ j =>
        have := appsF_all h j (by omega)
        rwa [show k + 1 + j = k + (j + 1) by omega] at this
    · rw [appsF, if_pos h0] at h
      exact absurd h h0
theorem appF_zero {k kd v : Int} (h : appF k kd v = 0) : faultOf k = 0 ∧ (1 ≤ kd ∧ kd ≤ 3) ∧ (0 ≤ v ∧ v ≤ 9999) := by
  unfold appF at h
  by_cases h1 : faultOf k = 0
  · rw [if_neg (fun q => q h1)] at h
    by_cases h2 : ¬ (1 ≤ kd ∧ kd ≤ 3) ∨ ¬ (0 ≤ v ∧ v ≤ 9999)
    · rw [if_pos h2] at h; omega
    · exact ⟨h1, by omega, by omega⟩
  · rw [if_pos h1] at h; exact absurd h h1
/-- What is told of items that are applied. -/
def appliedF (m : Nat) (G : Nat → Int) : Int := if 12 < m then 2 else appsF G m 0
def ItmE (w : World) (g o i : Nat) (n0 n1 n2 : Int) (X : World) : Prop := (X.cell? ⟨g, o + i * 3, none⟩ = some (.int .i64 n0) ∧ X.cell? ⟨g, o + i * 3 + 1, none⟩ = some (.int .i64 n1) ∧ X.cell? ⟨g, o + i * 3 + 2, none⟩ = some (.int .i64 n2)) ∧ Below w.heap.size w X
theorem ItmE.later {w X X' : World} {g o i : Nat} {n0 n1 n2 : Int} (h : ItmE w g o i n0 n1 n2 X) (hb : Below X.heap.size X X') : ItmE w g o i n0 n1 n2 X' := by
  obtain ⟨⟨h0, h1, h2⟩, hy⟩ := h
  exact ⟨⟨(hb.cell (lt_cellP h0)).trans h0, (hb.cell (lt_cellP h1)).trans h1, (hb.cell (lt_cellP h2)).trans h2⟩, hy.trans (hb.mono hy.size)⟩
set_option maxRecDepth 100000 in
set_option maxHeartbeats 4000000 in
theorem l11Apply_any (L : Prs) (G : Nat → Int) (m : Nat) (v y : Value) (B B' : Nat) (w : World) (h : Row w B 2 L.length (rowL L) v) (hi' : Row w B' 3 m G y) (hn : L.length ≤ 800) (hm : m ≤ 12) (hk : ∀ i, i < m → 1 ≤ G (i * 3 + 1) ∧ G (i * 3 + 1) ≤ 3) :
    Calls Try.prog 42 #[v, y] w fun e w' => ∃ ao cp, e = .returned (.slice ao (applyN L G m).length cp) ∧ Own w' w.heap.size 36 2 (applyN L G m).length (rowL (applyN L G m)) (.slice ao (applyN L G m).length cp) ∧ Below w.heap.size w w' := by
  obtain ⟨ao0, cp0, rfl⟩ := h.form
  obtain ⟨bo0, bp0, rfl⟩ := hi'.form
  have H : Hid (Row w B 2 L.length (rowL L) (.slice ao0 L.length cp0) ∧ Row w B' 3 m G (.slice bo0 m bp0)) := ⟨h, hi'⟩
  clear h hi'
  obtain ⟨i0, hi, iz0, iz1, iz2⟩ := info_parts infoz_Pair
  go_enter Try.func42, Try.ntmps42
  go_wp2_with (at_builtin; refine wpList_app 36 i0 (.agg #[.int .i64 0, .int .i64 0]) 2 16 rfl _ _ 24 rfl Try.underlying24 hi iz0 iz1 iz2 rfl (by omega) (by omega) _ w.heap.size 0 [] (.slice (some ⟨w.heap.size, 0, none⟩) 0 0) rfl (OwnM.lit0 _ _ _ _ rfl) B L.length (rowL L) (.slice ao0 L.length cp0) rfl (H.out.1.alloc _) (by omega) (by simp) ?_; intro ao1 cp1 w2 O2 G2)
  have HS2 : Hid (Own w2 w.heap.size 36 2 L.length (rowL L) (.slice ao1 L.length cp1) ∧ Below w.heap.size w w2) := by
    rw [Nat.zero_add, List.nil_append] at O2
    exact ⟨own_eqP (O2.own (nums_length _ _)) (fun p hp => by simp [nums, hp]), (below_alloc w _).grown G2 (by simp) (fun r e => by simp [Value.ownBlock] at e; omega)⟩
  clear O2 G2
  go_wp2
  go_loopw [5, 6] (fun out i wr => ∃ (j : Nat) (ao : Option Addr) (cp : Nat), j ≤ m ∧ i = .int .i64 j ∧ out = .slice ao (applyN L G j).length cp ∧ Hid (Own wr w.heap.size 36 2 (applyN L G j).length (rowL (applyN L G j)) (.slice ao (applyN L G j).length cp) ∧ Below w.heap.size w wr)) (fun _ i _ => m - (intOf i).toNat)
  case atStart => exact ⟨0, ao1, cp1, Nat.zero_le _, rfl, rfl, HS2⟩
  case round =>
    obtain ⟨j, ao, cp, hj, rfl, rfl, HS⟩ := hrel
    by_cases hlt : j < m
    case neg =>
      obtain rfl : j = m := by omega
      go_wp2
      exact bodyPost_ret (v := .slice ao (applyN L G j).length cp) (by simp [results, Try.results42, go_sem]) rfl ⟨ao, cp, rfl, HS.out⟩
    have hlen : (applyN L G j).length ≤ 812 := Nat.le_trans (applyN_len L G j) (by omega)
    have hkj := hk j hlt
    obtain ⟨g, o, hbo, _, hg, y0, y1, y2⟩ := (H.out.2.later HS.out.2).at3 hlt
    subst hbo
    obtain ⟨n0, N0⟩ : ∃ x, G (j * 3) = x := ⟨_, rfl⟩
    rw [N0] at y0
    obtain ⟨n1, N1⟩ : ∃ x, G (j * 3 + 1) = x := ⟨_, rfl⟩
    rw [N1] at y1 hkj
    obtain ⟨n2, N2⟩ : ∃ x, G (j * 3 + 2) = x := ⟨_, rfl⟩
    rw [N2] at y2
    have HP : Hid (applyN L G (j + 1) = stepA (applyN L G j) n0 n1 n2) := by
      unfold Hid
      rw [← N0, ← N1, ← N2]
      rfl
    clear N0 N1 N2 HS2
    obtain ⟨A, hA⟩ : ∃ A, applyN L G j = A := ⟨_, rfl⟩
    rw [hA] at hlen HS HP
    rw [hA]
    clear hA
    by_cases k3 : n1 = 3
    · have HE : Hid (applyN L G (j + 1) = A) := by unfold Hid; rw [HP.out, stepA, if_neg (by omega), if_neg (by omega)]
      subst k3
      clear HP hkj
      go_wp2
      go_roundw
      case rel =>
        refine ⟨j + 1, ao, cp, by omega, by go_num, by rw [HE.out], ?_⟩
        rw [HE.out]
        exact HS
      case measure => simp [intOf]; omega
    have d3 : (n1 != 3) = true := bne_iff_ne.2 k3
    by_cases k1 : n1 = 1
    · have HE : Hid (applyN L G (j + 1) = setS A n0 n2 true) := by unfold Hid; rw [HP.out, stepA, if_pos k1, setS_put]
      subst k1
      clear HP hkj k3 d3
      go_wp2_with fail
      refine wp_region_held_drew (S := ItmE w g o j n0 1 n2) (by kernel_rfl) ⟨⟨y0, y1, y2⟩, HS.out.2.drew⟩ (fun hS => ?_)
      refine tkH 0 ?_ hS (fun wx hx => ?_) ?_; rotate_left
      · obtain ⟨⟨hx0, hx1, hx2⟩, _⟩ := hx; go_simp; try with_reducible rfl
      refine tkH 1 ?_ hS (fun wx hx => ?_) ?_; rotate_left
      · obtain ⟨⟨hx0, hx1, hx2⟩, _⟩ := hx; go_simp; try with_reducible rfl
      refine tkH 2 ?_ hS (fun wx hx => ?_) ?_; rotate_left
      · obtain ⟨⟨hx0, hx1, hx2⟩, _⟩ := hx; go_simp; try with_reducible rfl
      try simp only [Act.put, List.getElem_toArray, List.getElem_cons_zero, List.getElem_cons_succ, List.setIfInBounds_toArray, List.set_cons_succ, List.set_cons_zero]
      refine tkH 3 ?_ hS (fun wx hx => ?_) ?_; rotate_left
      · obtain ⟨⟨hx0, hx1, hx2⟩, _⟩ := hx; go_simp; try with_reducible rfl
      refine tkH 4 ?_ hS (fun wx hx => ?_) ?_; rotate_left
      · obtain ⟨⟨hx0, hx1, hx2⟩, _⟩ := hx; go_simp; try with_reducible rfl
      refine tkH 5 ?_ hS (fun wx hx => ?_) ?_; rotate_left
      · obtain ⟨⟨hx0, hx1, hx2⟩, _⟩ := hx; go_simp; try with_reducible rfl
      try simp only [Act.put, List.getElem_toArray, List.getElem_cons_zero, List.getElem_cons_succ, List.setIfInBounds_toArray, List.set_cons_succ, List.set_cons_zero]
      refine tkH 6 ?_ hS (fun wx hx => ?_) ?_; rotate_left
      · obtain ⟨⟨hx0, hx1, hx2⟩, _⟩ := hx; go_simp; try with_reducible rfl
      refine tkH 7 ?_ hS (fun wx hx => ?_) ?_; rotate_left
      · obtain ⟨⟨hx0, hx1, hx2⟩, _⟩ := hx; go_simp; try with_reducible rfl
      refine tkH 8 ?_ hS (fun wx hx => ?_) ?_; rotate_left
      · obtain ⟨⟨hx0, hx1, hx2⟩, _⟩ := hx; go_simp; try with_reducible rfl
      try simp only [Act.put, List.getElem_toArray, List.getElem_cons_zero, List.getElem_cons_succ, List.setIfInBounds_toArray, List.set_cons_succ, List.set_cons_zero]
      refine tkH 9 ?_ hS (fun wx hx => ?_) ?_; rotate_left
      · obtain ⟨⟨hx0, hx1, hx2⟩, _⟩ := hx; go_simp; try with_reducible rfl
      refine tkH 10 ?_ hS (fun wx hx => ?_) ?_; rotate_left
      · obtain ⟨⟨hx0, hx1, hx2⟩, _⟩ := hx; go_simp; try with_reducible rfl
      refine tkH 11 ?_ hS (fun wx hx => ?_) ?_; rotate_left
      · obtain ⟨⟨hx0, hx1, hx2⟩, _⟩ := hx; go_simp; try with_reducible rfl
      try simp only [Act.put, List.getElem_toArray, List.getElem_cons_zero, List.getElem_cons_succ, List.setIfInBounds_toArray, List.set_cons_succ, List.set_cons_zero]
      refine tkH 12 ?_ hS (fun wx hx => ?_) ?_; rotate_left
      · obtain ⟨⟨hx0, hx1, hx2⟩, _⟩ := hx; go_simp; try with_reducible rfl
      refine tkH 13 ?_ hS (fun wx hx => ?_) ?_; rotate_left
      · obtain ⟨⟨hx0, hx1, hx2⟩, _⟩ := hx; go_simp; try with_reducible rfl
      refine tkH 14 ?_ hS (fun wx hx => ?_) ?_; rotate_left
      · obtain ⟨⟨hx0, hx1, hx2⟩, _⟩ := hx; go_simp; try with_reducible rfl
      try simp only [Act.put, List.getElem_toArray, List.getElem_cons_zero, List.getElem_cons_succ, List.setIfInBounds_toArray, List.set_cons_succ, List.set_cons_zero]
      refine tkH 15 ?_ hS (fun wx hx => ?_) ?_; rotate_left
      · obtain ⟨⟨hx0, hx1, hx2⟩, _⟩ := hx; go_simp; try with_reducible rfl
      refine tkH 16 ?_ hS (fun wx hx => ?_) ?_; rotate_left
      · obtain ⟨⟨hx0, hx1, hx2⟩, _⟩ := hx; go_simp; try with_reducible rfl
      refine tkH 17 ?_ hS (fun wx hx => ?_) ?_; rotate_left
      · obtain ⟨⟨hx0, hx1, hx2⟩, _⟩ := hx; go_simp; try with_reducible rfl
      try simp only [Act.put, List.getElem_toArray, List.getElem_cons_zero, List.getElem_cons_succ, List.setIfInBounds_toArray, List.set_cons_succ, List.set_cons_zero]
      refine rdH 18 (fun K hK => ?_)
      go_simp
      go_wp2_with fail
      refine (l11Set_any A _ w.heap.size n0 n2 true _ (HS.out.1.later (Below.drew (Below.refl _ _))).row.1 (by omega)).mono ?_
      rintro e w1 ⟨ao1, cp1, rfl, o1, q1⟩
      have hS1 := hS.later q1
      have HS1 : Hid (Own w1 w.heap.size 36 2 (setS A n0 n2 true).length (rowL (setS A n0 n2 true)) (.slice ao1 (setS A n0 n2 true).length cp1) ∧ Below w.heap.size w w1) := ⟨o1.mono hS.2.size, hS1.2⟩
      clear hS q1 o1
      go_wp2_with fail
      refine hK.out _ _ hS1 (fun hS => ?_)
      clear hK K hS1
      refine tkH 19 ?_ hS (fun wx hx => ?_) ?_; rotate_left
      · obtain ⟨⟨hx0, hx1, hx2⟩, _⟩ := hx; go_simp; try with_reducible rfl
      refine wpAnyH_done (by kernel_rfl) ?_ _
      obtain ⟨LEN, hLEN⟩ : ∃ LEN, LEN = (setS A n0 n2 true).length := ⟨_, rfl⟩
      rw [← hLEN]
      have HLEN : Hid (LEN = (setS A n0 n2 true).length) := hLEN
      clear hLEN
      go_simp
      go_wp2
      go_roundw
      case rel =>
        refine ⟨j + 1, ao1, cp1, by omega, by go_num, by rw [HE.out, HLEN.out], ?_⟩
        rw [HE.out]
        exact HS1
      case measure => simp [intOf]; omega
    · have HE : Hid (applyN L G (j + 1) = setS A n0 n2 false) := by unfold Hid; rw [HP.out, stepA, if_neg k1, if_pos (by omega), setS_gone]
      obtain rfl : n1 = 2 := by omega
      clear HP hkj k3 k1 d3
      go_wp2_with fail
      refine wp_region_held_drew (S := ItmE w g o j n0 2 n2) (by kernel_rfl) ⟨⟨y0, y1, y2⟩, HS.out.2.drew⟩ (fun hS => ?_)
      refine tkH 0 ?_ hS (fun wx hx => ?_) ?_; rotate_left
      · obtain ⟨⟨hx0, hx1, hx2⟩, _⟩ := hx; go_simp; try with_reducible rfl
      refine tkH 1 ?_ hS (fun wx hx => ?_) ?_; rotate_left
      · obtain ⟨⟨hx0, hx1, hx2⟩, _⟩ := hx; go_simp; try with_reducible rfl
      refine tkH 2 ?_ hS (fun wx hx => ?_) ?_; rotate_left
      · obtain ⟨⟨hx0, hx1, hx2⟩, _⟩ := hx; go_simp; try with_reducible rfl
      try simp only [Act.put, List.getElem_toArray, List.getElem_cons_zero, List.getElem_cons_succ, List.setIfInBounds_toArray, List.set_cons_succ, List.set_cons_zero]
      refine tkH 3 ?_ hS (fun wx hx => ?_) ?_; rotate_left
      · obtain ⟨⟨hx0, hx1, hx2⟩, _⟩ := hx; go_simp; try with_reducible rfl
      refine tkH 4 ?_ hS (fun wx hx => ?_) ?_; rotate_left
      · obtain ⟨⟨hx0, hx1, hx2⟩, _⟩ := hx; go_simp; try with_reducible rfl
      refine tkH 5 ?_ hS (fun wx hx => ?_) ?_; rotate_left
      · obtain ⟨⟨hx0, hx1, hx2⟩, _⟩ := hx; go_simp; try with_reducible rfl
      try simp only [Act.put, List.getElem_toArray, List.getElem_cons_zero, List.getElem_cons_succ, List.setIfInBounds_toArray, List.set_cons_succ, List.set_cons_zero]
      refine tkH 6 ?_ hS (fun wx hx => ?_) ?_; rotate_left
      · obtain ⟨⟨hx0, hx1, hx2⟩, _⟩ := hx; go_simp; try with_reducible rfl
      refine tkH 7 ?_ hS (fun wx hx => ?_) ?_; rotate_left
      · obtain ⟨⟨hx0, hx1, hx2⟩, _⟩ := hx; go_simp; try with_reducible rfl
      refine tkH 8 ?_ hS (fun wx hx => ?_) ?_; rotate_left
      · obtain ⟨⟨hx0, hx1, hx2⟩, _⟩ := hx; go_simp; try with_reducible rfl
      try simp only [Act.put, List.getElem_toArray, List.getElem_cons_zero, List.getElem_cons_succ, List.setIfInBounds_toArray, List.set_cons_succ, List.set_cons_zero]
      refine tkH 9 ?_ hS (fun wx hx => ?_) ?_; rotate_left
      · obtain ⟨⟨hx0, hx1, hx2⟩, _⟩ := hx; go_simp; try with_reducible rfl
      refine tkH 10 ?_ hS (fun wx hx => ?_) ?_; rotate_left
      · obtain ⟨⟨hx0, hx1, hx2⟩, _⟩ := hx; go_simp; try with_reducible rfl
      refine tkH 11 ?_ hS (fun wx hx => ?_) ?_; rotate_left
      · obtain ⟨⟨hx0, hx1, hx2⟩, _⟩ := hx; go_simp; try with_reducible rfl
      try simp only [Act.put, List.getElem_toArray, List.getElem_cons_zero, List.getElem_cons_succ, List.setIfInBounds_toArray, List.set_cons_succ, List.set_cons_zero]
      refine tkH 12 ?_ hS (fun wx hx => ?_) ?_; rotate_left
      · obtain ⟨⟨hx0, hx1, hx2⟩, _⟩ := hx; go_simp; try with_reducible rfl
      refine tkH 13 ?_ hS (fun wx hx => ?_) ?_; rotate_left
      · obtain ⟨⟨hx0, hx1, hx2⟩, _⟩ := hx; go_simp; try with_reducible rfl
      refine tkH 14 ?_ hS (fun wx hx => ?_) ?_; rotate_left
      · obtain ⟨⟨hx0, hx1, hx2⟩, _⟩ := hx; go_simp; try with_reducible rfl
      try simp only [Act.put, List.getElem_toArray, List.getElem_cons_zero, List.getElem_cons_succ, List.setIfInBounds_toArray, List.set_cons_succ, List.set_cons_zero]
      refine tkH 15 ?_ hS (fun wx hx => ?_) ?_; rotate_left
      · obtain ⟨⟨hx0, hx1, hx2⟩, _⟩ := hx; go_simp; try with_reducible rfl
      refine tkH 16 ?_ hS (fun wx hx => ?_) ?_; rotate_left
      · obtain ⟨⟨hx0, hx1, hx2⟩, _⟩ := hx; go_simp; try with_reducible rfl
      refine tkH 17 ?_ hS (fun wx hx => ?_) ?_; rotate_left
      · obtain ⟨⟨hx0, hx1, hx2⟩, _⟩ := hx; go_simp; try with_reducible rfl
      try simp only [Act.put, List.getElem_toArray, List.getElem_cons_zero, List.getElem_cons_succ, List.setIfInBounds_toArray, List.set_cons_succ, List.set_cons_zero]
      refine rdH 18 (fun K hK => ?_)
      go_simp
      go_wp2_with fail
      refine (l11Set_any A _ w.heap.size n0 n2 false _ (HS.out.1.later (Below.drew (Below.refl _ _))).row.1 (by omega)).mono ?_
      rintro e w1 ⟨ao1, cp1, rfl, o1, q1⟩
      have hS1 := hS.later q1
      have HS1 : Hid (Own w1 w.heap.size 36 2 (setS A n0 n2 false).length (rowL (setS A n0 n2 false)) (.slice ao1 (setS A n0 n2 false).length cp1) ∧ Below w.heap.size w w1) := ⟨o1.mono hS.2.size, hS1.2⟩
      clear hS q1 o1
      go_wp2_with fail
      refine hK.out _ _ hS1 (fun hS => ?_)
      clear hK K hS1
      refine tkH 19 ?_ hS (fun wx hx => ?_) ?_; rotate_left
      · obtain ⟨⟨hx0, hx1, hx2⟩, _⟩ := hx; go_simp; try with_reducible rfl
      refine wpAnyH_done (by kernel_rfl) ?_ _
      obtain ⟨LEN, hLEN⟩ : ∃ LEN, LEN = (setS A n0 n2 false).length := ⟨_, rfl⟩
      rw [← hLEN]
      have HLEN : Hid (LEN = (setS A n0 n2 false).length) := hLEN
      clear hLEN
      go_simp
      go_wp2
      go_roundw
      case rel =>
        refine ⟨j + 1, ao1, cp1, by omega, by go_num, by rw [HE.out, HLEN.out], ?_⟩
        rw [HE.out]
        exact HS1
      case measure => simp [intOf]; omega
end Go.Proofs.Ytlkmcnghdfbapaa

namespace Go.Proofs.Ytlkmcnghdfbapaa
open Go.RowKit

theorem appF_ok {k kd v : Int} (h : faultOf k = 0) (h1 : 1 ≤ kd ∧ kd ≤ 3) (h2 : 0 ≤ v ∧ v ≤ 9999) : appF k kd v = 0 := by unfold appF; rw [if_neg (fun q => q h), if_neg (by omega)]
theorem appliedF_zero {m : Nat} {G : Nat → Int} (h : appliedF m G = 0) : m ≤ 12 ∧ appsF G m 0 = 0 ∧ ∀ i, i < m → 1 ≤ G (i * 3 + 1) ∧ G (i * 3 + 1) ≤ 3 := by
  unfold appliedF at h
  by_cases q : 12 < m
  · rw [if_pos q] at h; omega
  · rw [if_neg q] at h
    exact ⟨by omega, h, fun i hi => by have := appsF_all h i hi; rw [Nat.zero_add] at this; exact (appF_zero this).2.1⟩
end Go.Proofs.Ytlkmcnghdfbapaa

namespace Go.Proofs.Ytlkmcnghdfbapaa
open Go.RowKit

theorem kI_ok {a : Int} (h : 0 ≤ a ∧ a ≤ 9) : faultOf (kI a) = 0 := faultOf_ok (by unfold kI; omega)
theorem kB_ok {a : Int} (h : 0 ≤ a ∧ a ≤ 9) : faultOf (kB a) = 0 := faultOf_ok (by unfold kB; omega)
theorem appsF_of {G : Nat → Int} : ∀ {m k : Nat}, (∀ j, j < m → appF (G ((k + j) * 3)) (G ((k + j) * 3 + 1)) (G ((k + j) * 3 + 2)) = 0) → appsF G m k = 0
  | 0, _, _ => rfl
  | m + 1, k, h => by
    rw [appsF, if_neg (by have := h 0 (Nat.succ_pos _); simpa using this)]
    exact appsF_of fun j hj => by
      have := h (j + 1) (by omega)
      rwa [show k + (j + 1) = k + 1 + j by omega] at this
/-- What is written, and how many: items without a fault. -/
def ItemsOk (m : Nat) (W : List Int) : Prop := appliedF m (fun p => W.getD p 0) = 0 ∧ W.length = m * 3
theorem items0 : ItemsOk 0 [] := ⟨rfl, rfl⟩
theorem items1 {a0 a1 a2 : Int} (h0 : appF a0 a1 a2 = 0) : ItemsOk 1 [a0, a1, a2] := by
  refine ⟨?_, rfl⟩
  unfold appliedF
  rw [if_neg (by omega)]
  exact appsF_of fun j hj => by
    match j, hj with
    | 0, _ => exact h0
theorem items2 {a0 a1 a2 b0 b1 b2 : Int} (h0 : appF a0 a1 a2 = 0) (h1 : appF b0 b1 b2 = 0) : ItemsOk 2 [a0, a1, a2, b0, b1, b2] := by
  refine ⟨?_, rfl⟩
  unfold appliedF
  rw [if_neg (by omega)]
  exact appsF_of fun j hj => by
    match j, hj with
    | 0, _ => exact h0
    | 1, _ => exact h1
theorem items3 {a0 a1 a2 b0 b1 b2 c0 c1 c2 : Int} (h0 : appF a0 a1 a2 = 0) (h1 : appF b0 b1 b2 = 0) (h2 : appF c0 c1 c2 = 0) : ItemsOk 3 [a0, a1, a2, b0, b1, b2, c0, c1, c2] := by
  refine ⟨?_, rfl⟩
  unfold appliedF
  rw [if_neg (by omega)]
  exact appsF_of fun j hj => by
    match j, hj with
    | 0, _ => exact h0
    | 1, _ => exact h1
    | 2, _ => exact h2
theorem op_value {kd d n td tn vv : Int} (h : opF kd d n td tn vv = 0) : 0 ≤ vv ∧ vv ≤ 9999 := by
  unfold opF at h
  cases h1 : suitsB kd td tn vv with
  | false => rw [h1] at h; simp at h
  | true =>
    cases h2 : boundsB d n td tn vv with
    | false => rw [h1, h2] at h; simp at h
    | true =>
      have b := of_decide_eq_true h2
      exact b.2.2.2.2
/-- Whatever an operation finds: with a reply nothing is written; what is written has no fault. -/
theorem reply_items {L : Prs} (hv : ∀ k, 0 ≤ (lookF L k).2 ∧ (lookF L k).2 ≤ 9999) {kd d n td tn vv : Int} (ho : opF kd d n td tn vv = 0) :
    ItemsOk (replyP L kd d n td tn vv).2.2.2.1 (replyP L kd d n td tn vv).2.2.2.2 ∧ ((replyP L kd d n td tn vv).1 ≠ 0 → (replyP L kd d n td tn vv).2.2.2.1 = 0) ∧ (0 ≤ (replyP L kd d n td tn vv).2.1 ∧ (replyP L kd d n td tn vv).2.1 ≤ 9999) := by
  obtain ⟨hkd, hd, hn, htd, htn⟩ := op_bounds ho
  have hvv := op_value ho
  have hc : 0 ≤ minC (lookF L (kE d n)).2 ∧ minC (lookF L (kE d n)).2 ≤ 9 := minC_in (hv _).1
  have hcv := hv (kI (minC (lookF L (kE d n)).2))
  have hbv := hv (kB (minC (lookF L (kE d n)).2))
  have h0v := hv 0
  have e0 : faultOf (0 : Int) = 0 := by decide
  unfold replyP
  split
  · split
    · split
      · exact ⟨items0, fun _ => rfl, by simp only; omega⟩
      · unfold makeP
        split
        · rename_i hnx
          exact ⟨items3 (appF_ok e0 (by omega) (by omega)) (appF_ok (kI_ok (by omega)) (by omega) (by split <;> omega)) (appF_ok (kE_ok hd hn) (by omega) (by omega)), fun h => absurd rfl h, by simp only; omega⟩
        · exact ⟨items0, fun _ => rfl, by simp only; omega⟩
    · split
      · unfold childP
        generalize minC (lookF L (kE d n)).2 = c at hc hcv hbv ⊢
        generalize (lookF L (kI c)).2 = cv at hcv ⊢
        split
        · unfold removeP
          split
          · split
            · exact ⟨items2 (appF_ok (kE_ok hd hn) (by omega) (by omega)) (appF_ok (kI_ok hc) (by omega) (by omega)), fun h => absurd rfl h, by simp only; omega⟩
            · exact ⟨items0, fun _ => rfl, by simp only; omega⟩
          · split
            · exact ⟨items2 (appF_ok (kE_ok hd hn) (by omega) (by omega)) (appF_ok (kI_ok hc) (by omega) (by omega)), fun h => absurd rfl h, by simp only; omega⟩
            · exact ⟨items3 (appF_ok (kE_ok hd hn) (by omega) (by omega)) (appF_ok (kI_ok hc) (by omega) (by omega)) (appF_ok (kB_ok hc) (by omega) (by omega)), fun h => absurd rfl h, by simp only; omega⟩
        · split
          · unfold moveP
            split
            · exact ⟨items0, fun _ => rfl, by simp only; omega⟩
            · split
              · exact ⟨items2 (appF_ok (kE_ok hd hn) (by omega) (by omega)) (appF_ok (kE_ok htd htn) (by omega) (by omega)), fun h => absurd rfl h, by simp only; omega⟩
              · exact ⟨items0, fun _ => rfl, by simp only; omega⟩
          · split
            · unfold linkP
              split
              · exact ⟨items0, fun _ => rfl, by simp only; omega⟩
              · split
                · split
                  · exact ⟨items0, fun _ => rfl, by simp only; omega⟩
                  · exact ⟨items2 (appF_ok (kI_ok hc) (by omega) (by omega)) (appF_ok (kE_ok htd htn) (by omega) (by omega)), fun h => absurd rfl h, by simp only; omega⟩
                · exact ⟨items0, fun _ => rfl, by simp only; omega⟩
            · split
              · exact ⟨items0, fun h => absurd rfl h, by simp only; omega⟩
              · split
                · exact ⟨items0, fun _ => rfl, by simp only; omega⟩
                · split
                  · exact ⟨items1 (appF_ok (kB_ok hc) (by omega) (by omega)), fun h => absurd rfl h, by simp only; omega⟩
                  · exact ⟨items0, fun _ => rfl, by simp only; omega⟩
      · exact ⟨items0, fun _ => rfl, by simp only; omega⟩
  · exact ⟨items0, fun _ => rfl, by simp only; omega⟩
/-- A list of pairs that has no fault. -/
def GoodP (L : Prs) : Prop := Rises L ∧ ∀ e ∈ L, faultOf e.1 = 0 ∧ 0 ≤ e.2 ∧ e.2 ≤ 9999
theorem good_of_pairs {F : Nat → Int} {n : Nat} (h : pairsF F n 0 = 0) : GoodP (listOf F n) := by
  refine ⟨(pairs_rise h).1, fun e he => ⟨?_, pairs_vals h e he⟩⟩
  unfold listOf at he
  obtain ⟨k, hk, rfl⟩ := List.mem_map.1 he
  have := pairsF_all h k (List.mem_range.1 hk)
  rw [Nat.zero_add] at this
  exact (pairF_zero this).1
theorem pairsF_of {F : Nat → Int} : ∀ {m k : Nat}, (∀ j, j < m → pairF F (k + j) = 0) → pairsF F m k = 0
  | 0, _, _ => rfl
  | m + 1, k, h => by
    rw [pairsF, if_neg (by have := h 0 (Nat.succ_pos _); simpa using this)]
    exact pairsF_of fun j hj => by
      have := h (j + 1) (by omega)
      rwa [show k + (j + 1) = k + 1 + j by omega] at this
theorem pairs_of_good {L : Prs} (h : GoodP L) : pairsF (rowL L) L.length 0 = 0 := by
  refine pairsF_of fun j hj => ?_
  rw [Nat.zero_add]
  have hm : L.getD j (0, 0) ∈ L := by
    rw [List.getD_eq_getElem?_getD, List.getElem?_eq_getElem hj]
    exact List.getElem_mem hj
  have he := h.2 _ hm
  refine pairF_ok (rowL_key L j) (rowL_val L j) rfl he.1 he.2 (fun q => ?_)
  have hr := List.pairwise_iff_getElem.1 h.1 (j - 1) j (by omega) hj (by omega)
  rw [rowL_key] at q
  rw [List.getD_eq_getElem?_getD, List.getElem?_eq_getElem hj, List.getD_eq_getElem?_getD, List.getElem?_eq_getElem (show j - 1 < L.length by omega)] at q
  simp only [Option.getD_some] at q
  omega
theorem listOf_rowL (L : Prs) : listOf (rowL L) L.length = L := by
  apply List.ext_getElem
  · rw [listOf_length]
  · intro i h1 h2
    have := listOf_get (F := rowL L) h2
    rw [List.getD_eq_getElem?_getD, List.getElem?_eq_getElem h1, Option.getD_some, rowL_key, rowL_val, List.getD_eq_getElem?_getD, List.getElem?_eq_getElem h2] at this
    simpa using this
theorem GoodP.step {L : Prs} (h : GoodP L) {k kd v : Int} (hi : appF k kd v = 0) : GoodP (stepA L k kd v) := by
  have h3 := appF_zero hi
  refine ⟨stepA_rises h.1 k kd v, fun e he => ?_⟩
  unfold stepA at he
  split at he
  · rcases putPr_mem he with rfl | q
    · exact ⟨h3.1, h3.2.2⟩
    · exact h.2 e q
  · split at he
    · exact h.2 e (List.mem_filter.1 he).1
    · exact h.2 e he
theorem GoodP.apply {L : Prs} (h : GoodP L) {G : Nat → Int} : ∀ {m : Nat}, (∀ i, i < m → appF (G (i * 3)) (G (i * 3 + 1)) (G (i * 3 + 2)) = 0) → GoodP (applyN L G m)
  | 0, _ => h
  | m + 1, hi => (GoodP.apply h (m := m) (fun i him => hi i (by omega))).step (hi m (Nat.lt_succ_self _))
theorem ItemsOk.all {m : Nat} {W : List Int} (h : ItemsOk m W) : ∀ i, i < m → appF (W.getD (i * 3) 0) (W.getD (i * 3 + 1) 0) (W.getD (i * 3 + 2) 0) = 0 := fun i hi => by
  have := appsF_all (appliedF_zero h.1).2.1 i hi
  rwa [Nat.zero_add] at this
theorem GoodP.vals {L : Prs} (h : GoodP L) : ∀ k, 0 ≤ (lookF L k).2 ∧ (lookF L k).2 ≤ 9999 := lookF_val fun e he => (h.2 e he).2
theorem GoodP.len {L : Prs} (h : GoodP L) : L.length ≤ 200 := by
  have := (pairs_rise (pairs_of_good h)).2
  exact this
/-- What an operation comes to: its reply, its value, the view behind it. -/
def applyP (L : Prs) (kd d n td tn vv : Int) : Int × Int × Prs :=
  ((replyP L kd d n td tn vv).1, (replyP L kd d n td tn vv).2.1, applyN L (fun p => (replyP L kd d n td tn vv).2.2.2.2.getD p 0) (replyP L kd d n td tn vv).2.2.2.1)
theorem GoodP.applyOp {L : Prs} (h : GoodP L) {kd d n td tn vv : Int} (ho : opF kd d n td tn vv = 0) : GoodP (applyP L kd d n td tn vv).2.2 :=
  h.apply ((reply_items h.vals ho).1.all)
end Go.Proofs.Ytlkmcnghdfbapaa

namespace Go.Proofs.Ytlkmcnghdfbapaa
open Go.RowKit

/-- A source at block b: the bytes that it draws from, and how often it drew. -/
structure Src (w : World) (b : Nat) (o : Option Addr) (len cap : Nat) (at' : Int) : Prop where
  code : w.cell? ⟨b, 0, none⟩ = some (.slice o len cap)
  count : w.cell? ⟨b, 1, none⟩ = some (.int .i64 at')
  live : w.frozen? ⟨b, 1, none⟩ = false
  pos : 0 ≤ at'
  bytes : ∀ j, j < len → ∃ (g off : Nat) (n : Int), o = some ⟨g, off, none⟩ ∧ g ≠ b ∧ w.cell? ⟨g, off + j, none⟩ = some (.int .u8 n) ∧ 0 ≤ n ∧ n < 256

theorem Src.next {w : World} {b : Nat} {o : Option Addr} {len cap : Nat} {a : Int} (h : Src w b o len cap a) : Src (w.setCell ⟨b, 1, none⟩ (.int .i64 (a + 1))) b o len cap (a + 1) where
  code := (World.cell?_setCell_other _ _ _ _ (by simp)).trans h.code
  count := World.cell?_setCell_same _ _ _ h.count
  live := (World.frozen?_setCell _ _ _ _).trans h.live
  pos := by have := h.pos; omega
  bytes := fun j hj => by
    obtain ⟨g, off, n, e1, e2, e3, e4⟩ := h.bytes j hj
    exact ⟨g, off, n, e1, e2, (World.cell?_setCell_other _ _ _ _ (fun e => e2 (congrArg Addr.block e).symm)).trans e3, e4⟩
theorem Src.drewN {w : World} {b : Nat} {o : Option Addr} {len cap : Nat} {a : Int} (h : Src w b o len cap a) (n : Nat) : Src (w.drewN n) b o len cap a := ⟨h.code, h.count, h.live, h.pos, h.bytes⟩
/-- The world but for block b is as it was. -/
def But (b : Nat) (w w' : World) : Prop := w.grownBy w' (some b)
theorem But.next (w : World) (b : Nat) (v : Value) : But b w (w.setCell ⟨b, 1, none⟩ v) :=
  ⟨rfl, rfl, rfl, by simp [World.setCell], fun k _ hk => Below.heap_setCell w ⟨b, 1, none⟩ v k (fun e => hk (by simp [e]))⟩

set_option maxHeartbeats 400000 in
theorem l1Next_less (w : World) (b : Nat) (o : Option Addr) (len cap : Nat) (a n : Int) (h : Src w b o len cap a) (ha : a ≤ 1000000) (hn : n < 1) :
    Calls Try.prog 23 #[.pointer (some ⟨b, 0, none⟩), .int .i64 n] w fun e w' => e = .returned (.int .i64 0) ∧ w' = w.setCell ⟨b, 1, none⟩ (.int .i64 (a + 1)) := by
  have h1 := h.count
  have h2 := h.live
  have h3 := h.pos
  clear h
  go_enter Try.func23, Try.ntmps23
  go_wp2
  go_ret
  exact ⟨rfl, rfl⟩
set_option maxHeartbeats 400000 in
theorem l1Next_none (w : World) (b : Nat) (o : Option Addr) (cap : Nat) (a n : Int) (h : Src w b o 0 cap a) (ha : a ≤ 1000000) (hn : 1 ≤ n) :
    Calls Try.prog 23 #[.pointer (some ⟨b, 0, none⟩), .int .i64 n] w fun e w' => e = .returned (.int .i64 ((a * 7) % n)) ∧ w' = w.setCell ⟨b, 1, none⟩ (.int .i64 (a + 1)) := by
  have g0 := h.next.code
  have g1 := h.next.count
  have h1 := h.count
  have h2 := h.live
  have h3 := h.pos
  clear h
  go_enter Try.func23, Try.ntmps23
  go_wp2
  go_ret
  exact ⟨rfl, rfl⟩
set_option maxHeartbeats 400000 in
theorem l1Next_some (w : World) (b g off : Nat) (len cap : Nat) (a n x : Int) (h : Src w b (some ⟨g, off, none⟩) len cap a) (ha : a ≤ 1000000) (hl : 0 < len) (hl2 : len ≤ 1048576) (hn : 1 ≤ n) (hn2 : n ≤ 200)
    (hc : w.cell? ⟨g, off + (a % len).toNat, none⟩ = some (.int .u8 x)) (hg : g ≠ b) (x0 : 0 ≤ x) (x1 : x < 256) :
    Calls Try.prog 23 #[.pointer (some ⟨b, 0, none⟩), .int .i64 n] w fun e w' => e = .returned (.int .i64 ((x + a / len * 37) % n)) ∧ ∃ m, w' = (w.setCell ⟨b, 1, none⟩ (.int .i64 (a + 1))).drewN m := by
  have g0 := h.next.code
  have g1 := h.next.count
  have gc : (w.setCell ⟨b, 1, none⟩ (.int .i64 (a + 1))).cell? ⟨g, off + (a % len).toNat, none⟩ = some (.int .u8 x) := (World.cell?_setCell_other _ _ _ _ (fun e => hg (congrArg Addr.block e).symm)).trans hc
  have h1 := h.count
  have h2 := h.live
  have h3 := h.pos
  clear h hc
  have q0 : 0 ≤ a / len := Int.ediv_nonneg h3 (by omega)
  have q1 : a / len ≤ a := Int.ediv_le_self _ h3
  have r0 : 0 ≤ a % len := Int.emod_nonneg _ (by omega)
  have r1 : a % len < len := Int.emod_lt_of_pos _ (by omega)
  have hl0 : ((len : Int) == 0) = false := beq_eq_false_iff_ne.2 (by omega)
  go_enter Try.func23, Try.ntmps23
  go_wp2
  go_quiet (fail)
  go_wp2
  go_ret
  exact ⟨rfl, _, rfl⟩
set_option maxHeartbeats 400000 in
theorem l1Next_big (w : World) (b g off : Nat) (len cap : Nat) (a n x y : Int) (h : Src w b (some ⟨g, off, none⟩) len cap a) (ha : a ≤ 1000000) (hl : 0 < len) (hl2 : len ≤ 1048576) (hn : 200 < n)
    (hc : w.cell? ⟨g, off + (a % len).toNat, none⟩ = some (.int .u8 x)) (hd : w.cell? ⟨g, off + ((a + 1) % len).toNat, none⟩ = some (.int .u8 y)) (hg : g ≠ b) (x0 : 0 ≤ x) (x1 : x < 256) (y0 : 0 ≤ y) (y1 : y < 256) :
    Calls Try.prog 23 #[.pointer (some ⟨b, 0, none⟩), .int .i64 n] w fun e w' => e = .returned (.int .i64 (((x + a / len * 37) * 251 + y * 13 + a) % n)) ∧ ∃ m, w' = (w.setCell ⟨b, 1, none⟩ (.int .i64 (a + 1))).drewN m := by
  have g0 := h.next.code
  have g1 := h.next.count
  have gc : (w.setCell ⟨b, 1, none⟩ (.int .i64 (a + 1))).cell? ⟨g, off + (a % len).toNat, none⟩ = some (.int .u8 x) := (World.cell?_setCell_other _ _ _ _ (fun e => hg (congrArg Addr.block e).symm)).trans hc
  have gd : (w.setCell ⟨b, 1, none⟩ (.int .i64 (a + 1))).cell? ⟨g, off + ((a + 1) % len).toNat, none⟩ = some (.int .u8 y) := (World.cell?_setCell_other _ _ _ _ (fun e => hg (congrArg Addr.block e).symm)).trans hd
  have h1 := h.count
  have h2 := h.live
  have h3 := h.pos
  clear h hc hd
  have q0 : 0 ≤ a / len := Int.ediv_nonneg h3 (by omega)
  have q1 : a / len ≤ a := Int.ediv_le_self _ h3
  have r0 : 0 ≤ a % len := Int.emod_nonneg _ (by omega)
  have r1 : a % len < len := Int.emod_lt_of_pos _ (by omega)
  have s0 : 0 ≤ (a + 1) % len := Int.emod_nonneg _ (by omega)
  have s1 : (a + 1) % len < len := Int.emod_lt_of_pos _ (by omega)
  have hl0 : ((len : Int) == 0) = false := beq_eq_false_iff_ne.2 (by omega)
  go_enter Try.func23, Try.ntmps23
  go_wp2
  go_quiet (fail)
  go_wp2
  go_quiet (fail)
  go_wp2
  go_ret
  exact ⟨rfl, _, rfl⟩

theorem But.drewN {b : Nat} {w w' : World} (h : But b w w') (n : Nat) : But b w (w'.drewN n) := ⟨h.os, h.tape, h.output, h.size, h.block⟩
/-- Whatever it draws from: a number in its bounds; its count goes on by one; all else stays. -/
theorem l1Next_any (w : World) (b : Nat) (o : Option Addr) (len cap : Nat) (a n : Int) (h : Src w b o len cap a) (ha : a ≤ 1000000) (hl : len ≤ 1048576) :
    Calls Try.prog 23 #[.pointer (some ⟨b, 0, none⟩), .int .i64 n] w fun e w' => ∃ r : Int, e = .returned (.int .i64 r) ∧ 0 ≤ r ∧ (1 ≤ n → r < n) ∧ Src w' b o len cap (a + 1) ∧ But b w w' := by
  by_cases hn : n < 1
  · exact (l1Next_less w b o len cap a n h ha hn).mono fun e w' ⟨he, hw⟩ => ⟨0, he, Int.le_refl _, fun h1 => by omega, hw ▸ h.next, hw ▸ But.next _ _ _⟩
  by_cases h0 : len = 0
  · subst h0
    exact (l1Next_none w b o cap a n h ha (by omega)).mono fun e w' ⟨he, hw⟩ => ⟨_, he, Int.emod_nonneg _ (by omega), fun _ => Int.emod_lt_of_pos _ (by omega), hw ▸ h.next, hw ▸ But.next _ _ _⟩
  · have h3 := h.pos
    have r0 : 0 ≤ a % len := Int.emod_nonneg _ (by omega)
    have r1 : a % len < len := Int.emod_lt_of_pos _ (by omega)
    have s0 : 0 ≤ (a + 1) % len := Int.emod_nonneg _ (by omega)
    have s1 : (a + 1) % len < len := Int.emod_lt_of_pos _ (by omega)
    obtain ⟨g, off, x, rfl, hg, hx, x0, x1⟩ := h.bytes (a % len).toNat (by omega)
    obtain ⟨g', off', y, he', hg', hy, y0, y1⟩ := h.bytes ((a + 1) % len).toNat (by omega)
    simp only [Option.some.injEq, Addr.mk.injEq, and_true] at he'
    obtain ⟨rfl, rfl⟩ := he'
    by_cases h2 : 200 < n
    · exact (l1Next_big w b g off len cap a n x y h ha (by omega) hl h2 hx hy hg x0 x1 y0 y1).mono fun e w' ⟨he, m, hw⟩ => ⟨_, he, Int.emod_nonneg _ (by omega), fun _ => Int.emod_lt_of_pos _ (by omega), hw ▸ h.next.drewN m, hw ▸ (But.next _ _ _).drewN m⟩
    · exact (l1Next_some w b g off len cap a n x h ha (by omega) hl (by omega) (by omega) hx hg x0 x1).mono fun e w' ⟨he, m, hw⟩ => ⟨_, he, Int.emod_nonneg _ (by omega), fun _ => Int.emod_lt_of_pos _ (by omega), hw ▸ h.next.drewN m, hw ▸ (But.next _ _ _).drewN m⟩
end Go.Proofs.Ytlkmcnghdfbapaa

namespace Go.Proofs.Ytlkmcnghdfbapaa
open Go.RowKit

theorem lt_of_cell {w : World} {b off : Nat} {v : Value} (h : w.cell? ⟨b, off, none⟩ = some v) : b < w.heap.size := World.block_lt_of_cell? w ⟨b, off, none⟩ h
theorem Src.lt {w : World} {b : Nat} {o : Option Addr} {len cap : Nat} {a : Int} (h : Src w b o len cap a) : b < w.heap.size := lt_of_cell h.code
theorem Src.later {w w' : World} {b : Nat} {o : Option Addr} {len cap : Nat} {a : Int} (h : Src w b o len cap a) (hb : Below w.heap.size w w') : Src w' b o len cap a where
  code := (hb.cell (p := ⟨b, 0, none⟩) h.lt).trans h.code
  count := (hb.cell (p := ⟨b, 1, none⟩) h.lt).trans h.count
  live := (hb.frozen (p := ⟨b, 1, none⟩) h.lt).trans h.live
  pos := h.pos
  bytes := fun j hj => by
    obtain ⟨g, off, n, e1, e2, e3, e4⟩ := h.bytes j hj
    exact ⟨g, off, n, e1, e2, (hb.cell (p := ⟨g, off + j, none⟩) (lt_of_cell e3)).trans e3, e4⟩
theorem Src.alloc {w : World} {b : Nat} {o : Option Addr} {len cap : Nat} {a : Int} (h : Src w b o len cap a) (x : Obj) : Src (w.alloc x) b o len cap a := h.later ((Below.refl _ _).alloc (Nat.le_refl _) _)
theorem But.refl (b : Nat) (w : World) : But b w w := ⟨rfl, rfl, rfl, Nat.le_refl _, fun _ _ _ => rfl⟩
theorem But.trans {b : Nat} {a c d : World} (h : But b a c) (k : But b c d) : But b a d := grown_trans h k
theorem But.alloc {b : Nat} {a c : World} (h : But b a c) (x : Obj) : But b a (c.alloc x) := grown_trans h (grown_refl_alloc x _)
theorem But.below {b : Nat} {a c d : World} (h : But b a c) (k : Below c.heap.size c d) : But b a d := grown_trans h ⟨k.os, k.tape, k.output, k.size, fun i hi _ => k.block i hi⟩
theorem But.cell {b : Nat} {w w' : World} (h : But b w w') {g off : Nat} {v : Value} (hc : w.cell? ⟨g, off, none⟩ = some v) (hg : g ≠ b) : w'.cell? ⟨g, off, none⟩ = some v := World.grownBy.cell h (a := ⟨g, off, none⟩) hc (by simp; exact hg)
theorem But.frozen {b : Nat} {w w' : World} (h : But b w w') {g off : Nat} (hl : g < w.heap.size) (hg : g ≠ b) : w'.frozen? ⟨g, off, none⟩ = w.frozen? ⟨g, off, none⟩ := World.frozen?_of_block (w := w) (h.block g hl (by simp; exact hg))
theorem But.ints {b B : Nat} {w w' : World} {v : Value} {xs : List Int} (h : But b w w') (hI : Ints w B v xs) (hb : b < B) : Ints w' B v xs := hI.grown h (fun k hk e => by have := (hI.lt k hk).1; simp at e; omega)
/-- What the source drew leaves all that was there ahead of it as it was. -/
theorem Below.but {B b : Nat} {a w w' : World} (h : Below B a w) (k : But b w w') (hB : B ≤ w.heap.size) (hb : B ≤ b) : Below B a w' := h.grown k hB (fun j e => by simp at e; omega)

/-- The bytes that come in. -/
def Code (w : World) (o : Option Addr) (len : Nat) : Prop := ∀ j, j < len → ∃ (g off : Nat) (n : Int), o = some ⟨g, off, none⟩ ∧ w.cell? ⟨g, off + j, none⟩ = some (.int .u8 n) ∧ 0 ≤ n ∧ n < 256
theorem Code.later {w w' : World} {o : Option Addr} {len : Nat} (h : Code w o len) (hb : Below w.heap.size w w') : Code w' o len := fun j hj => by
  obtain ⟨g, off, n, e1, e3, e4⟩ := h j hj
  exact ⟨g, off, n, e1, (hb.cell (p := ⟨g, off + j, none⟩) (lt_of_cell e3)).trans e3, e4⟩
set_option maxHeartbeats 400000 in
theorem l1Source_any (w : World) (o : Option Addr) (len cap : Nat) (h : Code w o len) :
    Calls Try.prog 10 #[.slice o len cap] w fun e w' => e = .returned (.pointer (some ⟨w.heap.size, 0, none⟩)) ∧ Src w' w.heap.size o len cap 0 ∧ Below w.heap.size w w' ∧ w'.heap.size = w.heap.size + 1 := by
  have HS : Hid (Src (w.alloc (.cells #[.slice o len cap, .int .i64 0] 53)) w.heap.size o len cap 0) := {
    code := World.cell?_alloc_mark w _ _ _ 0
    count := World.cell?_alloc_mark w _ _ _ 1
    live := by simp
    pos := Int.le_refl _
    bytes := fun j hj => by
      obtain ⟨g, off, n, e1, e3, e4⟩ := h j hj
      have hl := lt_of_cell e3
      exact ⟨g, off, n, e1, by omega, (World.cell?_alloc_lt _ _ _ hl).trans e3, e4⟩ }
  clear h
  go_enter Try.func10, Try.ntmps10
  go_wp2
  go_ret
  exact ⟨rfl, HS.out, (Below.refl _ _).alloc (Nat.le_refl _) _, by simp⟩

set_option maxHeartbeats 400000 in
theorem l1Pick_any (w : World) (b : Nat) (o : Option Addr) (len cap : Nat) (a : Int) (v : Value) (B : Nat) (xs : List Int) (h : Src w b o len cap a) (ha : a ≤ 1000000) (hl : len ≤ 1048576)
    (hI : Ints w B v xs) (hB : b < B) (hx : 0 < xs.length) (hx2 : xs.length ≤ 1000) :
    Calls Try.prog 27 #[.pointer (some ⟨b, 0, none⟩), v] w fun e w' => ∃ r : Int, e = .returned (.int .i64 r) ∧ r ∈ xs ∧ Src w' b o len cap (a + 1) ∧ But b w w' := by
  obtain ⟨ao, cp, rfl⟩ := hI.form
  have HN : Hid (Calls Try.prog 23 #[.pointer (some ⟨b, 0, none⟩), .int .i64 xs.length] w fun e w' => ∃ r : Int, e = .returned (.int .i64 r) ∧ 0 ≤ r ∧ (1 ≤ (xs.length : Int) → r < xs.length) ∧ Src w' b o len cap (a + 1) ∧ But b w w') := l1Next_any w b o len cap a xs.length h ha hl
  have HI : Hid (Ints w B (.slice ao xs.length cp) xs) := hI
  clear h hI
  go_enter Try.func27, Try.ntmps27
  go_wp2_with fail
  refine HN.out.mono ?_
  rintro e w1 ⟨r, rfl, r0, r1, hS, hT⟩
  have r1' : r < xs.length := r1 (by omega)
  clear r1
  have I1 : Ints w1 B (.slice ao xs.length cp) xs := hT.ints HI.out hB
  obtain ⟨k, rfl⟩ := Int.eq_ofNat_of_zero_le r0
  have hk : k < xs.length := by omega
  obtain ⟨g, rfl, _, hc, _⟩ := I1.at hk
  have HR : Hid (xs[k] ∈ xs ∧ Src w1 b o len cap (a + 1) ∧ But b w w1) := ⟨List.getElem_mem hk, hS, hT⟩
  clear hS hT I1
  go_wp2
  go_ret
  exact ⟨_, rfl, HR.out⟩
end Go.Proofs.Ytlkmcnghdfbapaa

namespace Go.Proofs.Ytlkmcnghdfbapaa
open Go.RowKit

set_option maxHeartbeats 1000000 in
theorem l1Key_any (w : World) (b : Nat) (o : Option Addr) (len cap : Nat) (a : Int) (h : Src w b o len cap a) (ha : a ≤ 900000) (hl : len ≤ 1048576) :
    Calls Try.prog 26 #[.pointer (some ⟨b, 0, none⟩)] w fun e w' => ∃ r : Int, e = .returned (.int .i64 r) ∧ faultOf r = 0 ∧ Src w' b o len cap (a + 5) ∧ But b w w' := by
  have H0 : Hid (Src w b o len cap a) := h
  have hp := h.pos
  clear h
  go_enter Try.func26, Try.ntmps26
  go_wp2_with fail
  refine (l1Next_any _ b o len cap a 4 H0.out (by omega) hl).mono ?_
  rintro e w1 ⟨r, rfl, r0, r1, hS, hT⟩
  have r4 : r < 4 := r1 (by omega)
  have H1 : Hid (Src w1 b o len cap (a + 1) ∧ But b w w1) := ⟨hS, hT⟩
  clear r1 hS hT
  go_wp2_with fail
  refine (l1Next_any _ b o len cap (a + 1) 3 H1.out.1 (by omega) hl).mono ?_
  rintro e w2 ⟨s, rfl, s0, s1, hS, hT⟩
  have s3 : s < 3 := s1 (by omega)
  have H2 : Hid (Src w2 b o len cap (a + 1 + 1) ∧ But b w w2) := ⟨hS, H1.out.2.trans hT⟩
  clear s1 hS hT H1
  go_wp2_with fail
  refine (l1Next_any _ b o len cap (a + 1 + 1) 3 H2.out.1 (by omega) hl).mono ?_
  rintro e w3 ⟨t, rfl, t0, t1, hS, hT⟩
  have t3 : t < 3 := t1 (by omega)
  have H3 : Hid (Src w3 b o len cap (a + 1 + 1 + 1) ∧ But b w w3) := ⟨hS, H2.out.2.trans hT⟩
  clear t1 hS hT H2
  go_wp2_with fail
  refine (l1Next_any _ b o len cap (a + 1 + 1 + 1) 3 H3.out.1 (by omega) hl).mono ?_
  rintro e w4 ⟨u, rfl, u0, u1, hS, hT⟩
  have u3 : u < 3 := u1 (by omega)
  have H4 : Hid (Src w4 b o len cap (a + 1 + 1 + 1 + 1) ∧ But b w w4) := ⟨hS, H3.out.2.trans hT⟩
  clear u1 hS hT H3
  go_wp2_with fail
  have hI : Ints (w4.alloc (.cells #[.int .i64 0, .int .i64 (10 + r), .int .i64 (20 + 10 * s + t), .int .i64 (180 + u)] 2)) w4.heap.size (.slice (some ⟨w4.heap.size, 0, none⟩) 4 4) [0, 10 + r, 20 + 10 * s + t, 180 + u] := World.ownsRow_lit w4 #[.int .i64 0, .int .i64 (10 + r), .int .i64 (20 + 10 * s + t), .int .i64 (180 + u)] 4 (Nat.le_refl _) (by decide) rfl
  refine (l1Pick_any _ b o len cap (a + 1 + 1 + 1 + 1) _ w4.heap.size [0, 10 + r, 20 + 10 * s + t, 180 + u] (H4.out.1.alloc _) (by omega) hl hI H4.out.1.lt (by simp) (by simp)).mono ?_
  rintro e w5 ⟨k, rfl, hk, hS, hT⟩
  have HR : Hid (faultOf k = 0 ∧ Src w5 b o len cap (a + 5) ∧ But b w w5) := by
    refine ⟨?_, ?_, (H4.out.2.alloc _).trans hT⟩
    · simp only [List.mem_cons, List.not_mem_nil, or_false] at hk
      apply faultOf_ok
      omega
    · have e5 : a + 1 + 1 + 1 + 1 + 1 = a + 5 := by omega
      rw [e5] at hS; exact hS
  clear hk hS hT hI H4
  go_wp2
  go_ret
  exact ⟨_, rfl, HR.out⟩
end Go.Proofs.Ytlkmcnghdfbapaa

namespace Go.Proofs.Ytlkmcnghdfbapaa
open Go.RowKit

theorem Src.keepT {w X X' : World} {b : Nat} {o : Option Addr} {len cap : Nat} {a a0 : Int} (h0 : Src w b o len cap a0) (h : Src X b o len cap a) (hT : But b w X) {row : Option Nat} (gr : X.grownBy X' row) (hr : ∀ r, row = some r → w.heap.size ≤ r) : Src X' b o len cap a ∧ But b w X' := by
  have hb := h0.lt
  have hbX : b < X.heap.size := Nat.lt_of_lt_of_le hb hT.size
  have kb : X'.heap[b]? = X.heap[b]? := gr.block b hbX (fun e => by have := hr b e.symm; omega)
  have hB : But b w X' := ⟨gr.os.trans hT.os, gr.tape.trans hT.tape, gr.output.trans hT.output, Nat.le_trans hT.size gr.size, fun i hi hne => (gr.block i (Nat.lt_of_lt_of_le hi hT.size) (fun e => by have := hr i e.symm; omega)).trans (hT.block i hi hne)⟩
  refine ⟨⟨(World.cell?_of_block (w := X) (a := ⟨b, 0, none⟩) kb).trans h.code, (World.cell?_of_block (w := X) (a := ⟨b, 1, none⟩) kb).trans h.count, (World.frozen?_of_block (w := X) (a := ⟨b, 1, none⟩) kb).trans h.live, h.pos, fun j hj => ?_⟩, hB⟩
  obtain ⟨g, off, n, e1, e2, e3, e4⟩ := h0.bytes j hj
  exact ⟨g, off, n, e1, e2, hB.cell e3 e2, e4⟩
theorem OwnM.but {w w' : World} {b B : Nat} {e : TypeId} {m n : Nat} {v : Value} {L : List Int} (h : OwnM w B e m v n L) (hT : But b w w') (hb : b < B) : OwnM w' B e m v n L :=
  h.keptB (fun k hk => hT.block k (h.block k hk).2 (fun e' => by have := Option.some.inj e'; have := (h.block k hk).1; omega))
theorem Blk3.but {x x' : World} {b c : Nat} {a0 a1 a2 : Value} (h : Blk3 x c a0 a1 a2) (hT : But b x x') (hc : c ≠ b) : Blk3 x' c a0 a1 a2 := h.kept (hT.block c h.lt (fun e => hc (Option.some.inj e)))
theorem But.setNew {b : Nat} {w x : World} (h : But b w x) {c : Nat} (hc : w.heap.size ≤ c) (off : Nat) (v : Value) : But b w (x.setCell ⟨c, off, none⟩ v) :=
  ⟨h.os, h.tape, h.output, by simpa [World.setCell] using h.size, fun k hk hne => (Below.heap_setCell x ⟨c, off, none⟩ v k (by simp; omega)).trans (h.block k hk hne)⟩
theorem Src.setNew {w x : World} {b : Nat} {o : Option Addr} {len cap : Nat} {a a0 : Int} (h0 : Src w b o len cap a0) (h : Src x b o len cap a) (hT : But b w x) {c : Nat} (hc : w.heap.size ≤ c) (off : Nat) (v : Value) : Src (x.setCell ⟨c, off, none⟩ v) b o len cap a :=
  (Src.keepT (X' := x.setCell ⟨c, off, none⟩ v) h0 h hT (row := some c) ⟨rfl, rfl, rfl, by simp [World.setCell], fun k _ hne => Below.heap_setCell x ⟨c, off, none⟩ v k (fun e => hne (by rw [e]))⟩ (fun r e => by have := Option.some.inj e; omega)).1
theorem Row.turnedC {w w' : World} {b B m n : Nat} {F : Nat → Int} {v : Value} (h : Row w B m n F v) (hT : But b w w') (hb : b < B) : Row w' B m n F v := by
  rcases Nat.eq_zero_or_pos n with e | e
  · subst e
    obtain ⟨ao, cp, rfl, _⟩ := h
    exact ⟨ao, cp, rfl, fun q => absurd q (Nat.lt_irrefl 0)⟩
  · exact h.kept hT.size (fun k hk hlt => hT.block k hlt (fun e' => by have := Option.some.inj e'; have := (h.lt e k hk).1; omega))
end Go.Proofs.Ytlkmcnghdfbapaa

namespace Go.Proofs.Ytlkmcnghdfbapaa
open Go.RowKit

theorem own_but {w w' : World} {b B m n : Nat} {e : TypeId} {v : Value} {F : Nat → Int} (h : Own w B e m n F v) (hT : But b w w') (hb : b < B) : Own w' B e m n F v :=
  own_kept h (fun k hk => hT.block k (own_in h k hk).2 (fun q => by have := (own_in h k hk).1; cases q; omega))
structure DrP (w : World) (b : Nat) (o : Option Addr) (len cap : Nat) (L : Prs) (v : Value) (a : Int) (x : World) : Prop where
  own : Own x w.heap.size 36 2 L.length (rowL L) v
  src : Src x b o len cap a
  but : But b w x
set_option maxRecDepth 100000 in
set_option maxHeartbeats 2000000 in
theorem l11Right_any (w : World) (b : Nat) (o : Option Addr) (len cap : Nat) (a : Int) (h : Src w b o len cap a) (ha : a ≤ 500000) (hl : len ≤ 1048576) :
    Calls Try.prog 44 #[.pointer (some ⟨b, 0, none⟩)] w fun e w' => ∃ (L : Prs) (ao : Option Addr) (cp : Nat) (a1 : Int), e = .returned (.slice ao L.length cp) ∧ L.length ≤ 8 ∧ a1 ≤ a + 80 ∧ DrP w b o len cap L (.slice ao L.length cp) a1 w' := by
  have H : Hid (Src w b o len cap a) := h
  have hbl := h.lt
  clear h
  have D0 : Hid (DrP w b o len cap [] (.slice (some ⟨w.heap.size, 0, none⟩) 0 0) a (w.alloc (.cells #[] 36))) := ⟨ownM_own (L := []) (OwnM.lit0 _ _ _ _ rfl), H.out.alloc _, (But.refl _ _).alloc _⟩
  go_enter Try.func44, Try.ntmps44
  go_wp2_with fail
  refine (l1Next_any _ b o len cap a 8 D0.out.src (by omega) hl).mono ?_
  rintro e w1 ⟨r, rfl, p0, p1, hS1, hT1⟩
  have p2 : r < 8 := p1 (by omega)
  obtain ⟨k0, rfl⟩ : ∃ k : Nat, r = k := ⟨r.toNat, by omega⟩
  have D1 : Hid (DrP w b o len cap [] (.slice (some ⟨w.heap.size, 0, none⟩) 0 0) (a + 1) w1) := ⟨own_but D0.out.own hT1 hbl, hS1, D0.out.but.trans hT1⟩
  clear hS1 hT1 D0 p0 p1
  go_wp2
  go_loopw [3, 4] (fun v k wr => ∃ (L : Prs) (z : Nat) (ao : Option Addr) (cp : Nat) (a1 : Int), v = .slice ao L.length cp ∧ k = .int .i64 z ∧ L.length + z ≤ 8 ∧ a1 + 8 * z ≤ a + 80 ∧ Hid (DrP w b o len cap L (.slice ao L.length cp) a1 wr)) (fun _ k _ => (intOf k).toNat)
  case atStart => exact ⟨[], k0, _, _, a + 1, rfl, rfl, by simp; omega, by omega, D1⟩
  case round =>
    clear D1
    obtain ⟨L, z, ao, cp, a1, rfl, rfl, hnz, haz, HD⟩ := hrel
    by_cases hz : 0 < z
    case neg =>
      obtain rfl : z = 0 := by omega
      go_wp2
      go_ret
      exact ⟨L, ao, cp, a1, rfl, by omega, by omega, HD.out⟩
    have dz : decide (0 < z) = true := decide_eq_true hz
    have hwz : IntKind.i64.wrap ((z : Int) - 1) = ((z - 1 : Nat) : Int) := by simp [IntKind.wrap, IntKind.bits, IntKind.signed]; omega
    go_wp2_with fail
    refine (l1Key_any _ b o len cap a1 HD.out.src (by omega) hl).mono ?_
    rintro e w2 ⟨x0, rfl, _, hS2, hT2⟩
    have D2 : Hid (DrP w b o len cap L (.slice ao L.length cp) (a1 + 5) w2) := ⟨own_but HD.out.own hT2 hbl, hS2, HD.out.but.trans hT2⟩
    clear hS2 hT2 HD
    go_wp2_with fail
    refine (l1Next_any _ b o len cap (a1 + 5) 99 D2.out.src (by omega) hl).mono ?_
    rintro e w3 ⟨x1, rfl, _, _, hS3, hT3⟩
    have D3 : Hid (DrP w b o len cap L (.slice ao L.length cp) (a1 + 5 + 1) w3) := ⟨own_but D2.out.own hT3 hbl, hS3, D2.out.but.trans hT3⟩
    clear hS3 hT3 D2
    go_wp2_with fail
    refine (l11Set_any L _ w.heap.size x0 x1 true _ D3.out.own.row.1 (by omega)).mono ?_
    rintro e w4 ⟨ao4, cp4, rfl, o4, q4⟩
    have D4 : Hid (DrP w b o len cap (setS L x0 x1 true) (.slice ao4 (setS L x0 x1 true).length cp4) (a1 + 5 + 1) w4) := ⟨o4.mono D3.out.but.size, D3.out.src.later q4, D3.out.but.below q4⟩
    have hln : (setS L x0 x1 true).length ≤ L.length + 1 := by rw [setS_put]; exact putPr_len L x0 x1
    clear o4 q4 D3
    obtain ⟨M, hM⟩ : ∃ M, setS L x0 x1 true = M := ⟨_, rfl⟩
    rw [hM] at D4 hln
    rw [hM]
    clear hM
    go_wp2
    go_roundw
    case rel => exact ⟨M, z - 1, ao4, cp4, a1 + 5 + 1, rfl, by go_num, by omega, by omega, D4⟩
    case measure => simp [intOf]; omega
/-- Pairs that were drawn: whatever they are. -/
structure DrQ (w : World) (b : Nat) (o : Option Addr) (len cap : Nat) (n : Nat) (v : Value) (a : Int) (x : World) : Prop where
  row : ∃ F, Row x w.heap.size 2 n F v
  src : Src x b o len cap a
  but : But b w x
theorem row_set1 {w : World} {B n g o cp : Nat} {F : Nat → Int} (h : Row w B 2 n F (.slice (some ⟨g, o, none⟩) n cp)) (u : Int) : Row (w.setCell ⟨g, o + 1, none⟩ (.int .i64 u)) B 2 n (fun p => if p = 1 then u else F p) (.slice (some ⟨g, o, none⟩) n cp) := by
  obtain ⟨ao, cp', hv, hr⟩ := h
  refine ⟨_, _, rfl, fun hn => ?_⟩
  obtain ⟨g', o', h1, h2, h3, h4⟩ := hr hn
  simp only [Value.slice.injEq] at hv
  obtain ⟨rfl, _, rfl⟩ := hv
  simp only [Option.some.injEq, Addr.mk.injEq] at h1
  obtain ⟨rfl, rfl, _⟩ := h1
  refine ⟨g, o, rfl, h2, by simpa using h3, fun p hp => ?_⟩
  by_cases q : p = 1
  · subst q
    rw [show (fun p => if p = 1 then u else F p) 1 = u from if_pos rfl]
    exact World.cell?_setCell_same _ _ _ (u := .int .i64 (F 1)) (h4 1 hp)
  · rw [show (fun p => if p = 1 then u else F p) p = F p from if_neg q]
    exact (World.cell?_setCell_other _ _ _ _ (fun e => q (by have := congrArg Addr.off e; simp at this; omega))).trans (h4 p hp)
set_option maxRecDepth 100000 in
set_option maxHeartbeats 2000000 in
theorem l11Bent_any (w : World) (b : Nat) (o : Option Addr) (len cap : Nat) (a : Int) (h : Src w b o len cap a) (ha : a ≤ 400000) (hl : len ≤ 1048576) :
    Calls Try.prog 24 #[.pointer (some ⟨b, 0, none⟩)] w fun e w' => ∃ (n : Nat) (ao : Option Addr) (cp : Nat) (a1 : Int), e = .returned (.slice ao n cp) ∧ n ≤ 9 ∧ a1 ≤ a + 90 ∧ DrQ w b o len cap n (.slice ao n cp) a1 w' := by
  have H : Hid (Src w b o len cap a) := h
  have hbl := h.lt
  clear h
  obtain ⟨i0, hi, iz0, iz1, iz2⟩ := info_parts infoz_Pair
  go_enter Try.func24, Try.ntmps24
  go_wp2_with fail
  refine (l11Right_any _ b o len cap a H.out (by omega) hl).mono ?_
  rintro e w1 ⟨L, ao, cp, a1, rfl, hL, ha1, D1⟩
  have D1 : Hid (DrP w b o len cap L (.slice ao L.length cp) a1 w1) := D1
  obtain ⟨N, hN⟩ : ∃ N, L.length = N := ⟨_, rfl⟩
  have HN : Hid (L.length = N) := hN
  have hpos := D1.out.src.pos
  rw [hN] at hL
  rw [hN]
  go_wp2_with fail
  refine (l1Next_any _ b o len cap a1 10 D1.out.src (by omega) hl).mono ?_
  rintro e w2 ⟨q, rfl, q0, q1, hS2, hT2⟩
  have D2 : Hid (Own w2 w.heap.size 36 2 N (rowL L) (.slice ao N cp) ∧ Src w2 b o len cap (a1 + 1) ∧ But b w w2) := by
    have := own_but D1.out.own hT2 hbl
    rw [hN] at this
    exact ⟨this, hS2, D1.out.but.trans hT2⟩
  have hz2 : w.heap.size ≤ w2.heap.size := D2.out.2.2.size
  clear hS2 hT2 D1 q1 hN
  by_cases h0 : q = 0
  · subst h0
    have hIx0 : Hid (Ints (w2.alloc (.cells #[.int .i64 189, .int .i64 5, .int .i64 0] 2)) w2.heap.size (.slice (some ⟨w2.heap.size, 0, none⟩) 3 3) [189, 5, 0]) := World.ownsRow_lit w2 #[.int .i64 189, .int .i64 5, .int .i64 0] 3 (Nat.le_refl _) (by decide) rfl
    go_wp2_with fail
    refine (l1Pick_any _ b o len cap (a1 + 1) _ w2.heap.size [189, 5, 0] (D2.out.2.1.alloc _) (by omega) hl hIx0.out D2.out.2.1.lt (by simp) (by simp)).mono ?_
    rintro e w3 ⟨x0, rfl, _, hSx0, hTx0⟩
    have D3 : Hid (Own w3 w.heap.size 36 2 N (rowL L) (.slice ao N cp) ∧ Src w3 b o len cap (a1 + 1 + 1) ∧ But b w w3) := ⟨own_but (D2.out.1.alloc _) hTx0 hbl, hSx0, (D2.out.2.2.alloc _).trans hTx0⟩
    clear hSx0 hTx0 D2 hIx0
    have hIx1 : Hid (Ints (w3.alloc (.cells #[.int .i64 5, .int .i64 (-1), .int .i64 10000] 2)) w3.heap.size (.slice (some ⟨w3.heap.size, 0, none⟩) 3 3) [5, -1, 10000]) := World.ownsRow_lit w3 #[.int .i64 5, .int .i64 (-1), .int .i64 10000] 3 (Nat.le_refl _) (by decide) rfl
    go_wp2_with fail
    refine (l1Pick_any _ b o len cap (a1 + 1 + 1) _ w3.heap.size [5, -1, 10000] (D3.out.2.1.alloc _) (by omega) hl hIx1.out D3.out.2.1.lt (by simp) (by simp)).mono ?_
    rintro e w4 ⟨x1, rfl, _, hSx1, hTx1⟩
    have D4 : Hid (Own w4 w.heap.size 36 2 N (rowL L) (.slice ao N cp) ∧ Src w4 b o len cap (a1 + 1 + 1 + 1) ∧ But b w w4) := ⟨own_but (D3.out.1.alloc _) hTx1 hbl, hSx1, (D3.out.2.2.alloc _).trans hTx1⟩
    have hz4 : w.heap.size ≤ w4.heap.size := D4.out.2.2.size
    have OM : Hid (OwnM w4 w.heap.size 36 2 (.slice ao N cp) N (flatL L)) := by
      have := own_ownP (L := L) (by rw [HN.out]; exact D4.out.1)
      rwa [HN.out] at this
    clear hSx1 hTx1 D3 hIx1
    go_wp2_with (at_builtin; refine wpList_app 36 i0 (.agg #[.int .i64 0, .int .i64 0]) 2 16 rfl _ _ 24 rfl Try.underlying24 hi iz0 iz1 iz2 rfl (by omega) (by omega) _ w.heap.size N (flatL L) (.slice ao N cp) rfl (OM.out.later (below_alloc _ _)) 0 1 (fun p => [x0, x1].getD p 0) (.slice (some ⟨w4.heap.size, 0, none⟩) 1 1) rfl (row_lit2 w4 x0 x1 36) (by omega) (by simp; omega) ?_; intro ao5 cp5 w5 O5 G5)
    have K5 := Src.keepT H.out (D4.out.2.1.alloc (.cells #[.int .i64 x0, .int .i64 x1] 36)) (D4.out.2.2.alloc _) G5 (fun r e => (OM.out.block r e).1)
    have HQ : Hid (DrQ w b o len cap (N + 1) (.slice ao5 (N + 1) cp5) (a1 + 1 + 1 + 1) w5) := by
      have e1 : (flatL L ++ nums (fun p => [x0, x1].getD p 0) (1 * 2)).length = (N + 1) * 2 := by rw [List.length_append, flatL_length, HN.out, nums_length]; omega
      exact ⟨⟨_, (O5.own e1).row.1⟩, K5.1, K5.2⟩
    clear O5 G5 K5 OM
    go_wp2
    go_ret
    exact ⟨N + 1, ao5, cp5, a1 + 1 + 1 + 1, rfl, by omega, by omega, HQ.out⟩
  have d0 : (q == 0) = false := beq_eq_false_iff_ne.2 h0
  by_cases h1 : q = 1
  · subst h1
    by_cases hN0 : 0 < N
    · have dN : decide ((N : Int) > 0) = true := decide_eq_true (by omega)
      have HR2 : Hid (Row w2 w.heap.size 2 N (rowL L) (.slice ao N cp)) := D2.out.1.row.1
      obtain ⟨g, oo, hao, hgB, hg, y0, y1⟩ := HR2.out.at2 hN0
      subst hao
      have fr : w2.frozen? ⟨g, oo + 1, none⟩ = false := by
        rcases D2.out.1.parts with ⟨_, e0⟩ | ⟨g', c', e0, _, _, _, hbk, _⟩
        · omega
        · simp only [Value.slice.injEq, Option.some.injEq, Addr.mk.injEq] at e0
          obtain ⟨⟨rfl, _⟩, _⟩ := e0
          exact hbk.frozen _
      simp only [Nat.zero_mul, Nat.add_zero] at y0 y1
      have HQ : Hid (DrQ w b o len cap N (.slice (some ⟨g, oo, none⟩) N cp) (a1 + 1) (w2.setCell ⟨g, oo + 1, none⟩ (.int .i64 (-1)))) := ⟨⟨_, row_set1 HR2.out (-1)⟩, Src.setNew H.out D2.out.2.1 D2.out.2.2 hgB _ _, But.setNew D2.out.2.2 hgB _ _⟩
      clear D2 HR2
      go_wp2
      go_ret
      exact ⟨N, _, cp, a1 + 1, rfl, by omega, by omega, HQ.out⟩
    · obtain rfl : N = 0 := by omega
      go_wp2
      go_ret
      exact ⟨0, ao, cp, a1 + 1, rfl, by omega, by omega, ⟨_, D2.out.1.row.1⟩, D2.out.2.1, D2.out.2.2⟩
  have d1 : (q == 1) = false := beq_eq_false_iff_ne.2 h1
  go_wp2
  go_ret
  exact ⟨N, ao, cp, a1 + 1, rfl, by omega, by omega, ⟨_, D2.out.1.row.1⟩, D2.out.2.1, D2.out.2.2⟩
end Go.Proofs.Ytlkmcnghdfbapaa

namespace Go.Proofs.Ytlkmcnghdfbapaa
open Go.RowKit

theorem lookF_cons (e : Int × Int) (t : Prs) (k : Int) : lookF (e :: t) k = if e.1 = k then (true, e.2) else lookF t k := by
  unfold lookF
  by_cases h : e.1 = k
  · rw [List.find?_cons_of_pos (by simpa using h), if_pos h]
  · rw [List.find?_cons_of_neg (by simpa using h), if_neg h]
theorem lwBigP_is (o : Option Addr) (len cap : Nat) (r : Bool) (w : World) (h : decide ((1048576 : Int) < (len : Int)) = r) :
    Calls Try.prog 4 #[.slice o len cap] w fun e w' => e = .returned (.bool r) ∧ w' = w := by
  go_enter Try.func4, Try.ntmps4
  go_wp2
  go_ret
  exact ⟨by first | rfl | (rw [← h]; rfl), rfl⟩
end Go.Proofs.Ytlkmcnghdfbapaa

namespace Go.Proofs.Ytlkmcnghdfbapaa

theorem addR_sub {xs : List Int} {k x : Int} (h : x ∈ xs) : x ∈ addR xs k := by
  unfold addR
  split
  · exact h
  · exact List.mem_append_left _ h
theorem addR_mem (xs : List Int) (k : Int) : k ∈ addR xs k := by
  unfold addR
  split
  · assumption
  · exact List.mem_append_right _ (List.mem_singleton.2 rfl)
/-- Two views that answer alike at the keys of a list. -/
def Alike (L M : Prs) (xs : List Int) : Prop := ∀ k, k ∈ xs → lookF M k = lookF L k
theorem Alike.sub {L M : Prs} {xs ys : List Int} (h : Alike L M ys) (hs : ∀ k, k ∈ xs → k ∈ ys) : Alike L M xs := fun k hk => h k (hs k hk)
theorem emptyP_sub (L : Prs) (c : Int) : ∀ (j : Nat) (i : Nat) (xs : List Int) (x : Int), x ∈ xs → x ∈ (emptyP L c j i xs).2
  | 0, _, _, _, h => h
  | j + 1, i, xs, x, h => by
    unfold emptyP
    split
    · exact addR_sub h
    · exact emptyP_sub L c j (i + 1) _ x (addR_sub h)
theorem emptyP_alike {L M : Prs} (c : Int) : ∀ (j : Nat) (i : Nat) (xs : List Int), Alike L M (emptyP L c j i xs).2 → emptyP M c j i xs = emptyP L c j i xs
  | 0, _, _, _ => rfl
  | j + 1, i, xs, h => by
    have hk : lookF M (kE c i) = lookF L (kE c i) := by
      refine h _ ?_
      unfold emptyP
      split
      · exact addR_mem _ _
      · exact emptyP_sub L c j (i + 1) _ _ (addR_mem _ _)
    by_cases q : (lookF L (kE c i)).1 = true
    · have e1 : emptyP L c (j + 1) i xs = (false, addR xs (kE c i)) := by rw [emptyP, if_pos q]
      have e2 : emptyP M c (j + 1) i xs = (false, addR xs (kE c i)) := by rw [emptyP, hk, if_pos q]
      rw [e1, e2]
    · have e1 : emptyP L c (j + 1) i xs = emptyP L c j (i + 1) (addR xs (kE c i)) := by rw [emptyP, if_neg q]
      have e2 : emptyP M c (j + 1) i xs = emptyP M c j (i + 1) (addR xs (kE c i)) := by rw [emptyP, hk, if_neg q]
      rw [e1] at h ⊢
      rw [e2]
      exact emptyP_alike c j (i + 1) _ h
theorem makeP_sub (L : Prs) (kd d n : Int) (xs : List Int) (x : Int) (h : x ∈ xs) : x ∈ (makeP L kd d n xs).2.2.1 := by
  unfold makeP
  split <;> exact addR_sub h
theorem makeP_alike {L M : Prs} {kd d n : Int} {xs : List Int} (h : Alike L M (makeP L kd d n xs).2.2.1) : makeP M kd d n xs = makeP L kd d n xs := by
  have hk : lookF M 0 = lookF L 0 := by
    refine h _ ?_
    unfold makeP
    split <;> exact addR_mem _ _
  unfold makeP
  rw [hk]
theorem targetP_sub (L : Prs) (td tn : Int) (xs : List Int) (x : Int) (h : x ∈ xs) : x ∈ (targetP L td tn xs).2 := by
  unfold targetP
  split
  · exact addR_sub (addR_sub h)
  · exact addR_sub h
theorem dirB_alike {L M : Prs} {a : Int} (h : lookF M (kI a) = lookF L (kI a)) : dirB M a = dirB L a := by
  unfold dirB
  rw [h]
theorem targetP_alike {L M : Prs} {td tn : Int} {xs : List Int} (h : Alike L M (targetP L td tn xs).2) : targetP M td tn xs = targetP L td tn xs := by
  have hk : lookF M (kI td) = lookF L (kI td) := by
    refine h _ ?_
    unfold targetP
    split
    · exact addR_sub (addR_mem _ _)
    · exact addR_mem _ _
  by_cases q : dirB L td = true
  · have he : lookF M (kE td tn) = lookF L (kE td tn) := by
      refine h _ ?_
      unfold targetP
      rw [if_pos q]
      exact addR_mem _ _
    unfold targetP
    rw [dirB_alike hk, he]
  · unfold targetP
    rw [dirB_alike hk, if_neg q, if_neg q]
theorem removeP_sub (L : Prs) (d n c cv : Int) (xs : List Int) (x : Int) (h : x ∈ xs) : x ∈ (removeP L d n c cv xs).2.2.1 := by
  unfold removeP
  split
  · split <;> exact emptyP_sub _ _ _ _ _ _ h
  · split <;> exact h
theorem removeP_alike {L M : Prs} {d n c cv : Int} {xs : List Int} (h : Alike L M (removeP L d n c cv xs).2.2.1) : removeP M d n c cv xs = removeP L d n c cv xs := by
  by_cases q : cv = 1000
  · have he : emptyP M c 6 0 xs = emptyP L c 6 0 xs := by
      refine emptyP_alike c 6 0 xs (h.sub fun k hk => ?_)
      unfold removeP
      rw [if_pos q]
      split <;> exact hk
    unfold removeP
    rw [he]
  · unfold removeP
    rw [if_neg q, if_neg q]
theorem moveP_sub (L : Prs) (d n td tn c cv : Int) (xs : List Int) (x : Int) (h : x ∈ xs) : x ∈ (moveP L d n td tn c cv xs).2.2.1 := by
  unfold moveP
  split
  · exact h
  · split <;> exact targetP_sub _ _ _ _ _ h
theorem moveP_alike {L M : Prs} {d n td tn c cv : Int} {xs : List Int} (h : Alike L M (moveP L d n td tn c cv xs).2.2.1) : moveP M d n td tn c cv xs = moveP L d n td tn c cv xs := by
  by_cases q : cv = 1000 ∧ td ≠ d
  · unfold moveP
    rw [if_pos q, if_pos q]
  · have he : targetP M td tn xs = targetP L td tn xs := by
      refine targetP_alike (h.sub fun k hk => ?_)
      unfold moveP
      rw [if_neg q]
      split <;> exact hk
    unfold moveP
    rw [he]
theorem linkP_sub (L : Prs) (td tn c cv : Int) (xs : List Int) (x : Int) (h : x ∈ xs) : x ∈ (linkP L td tn c cv xs).2.2.1 := by
  unfold linkP
  split
  · exact h
  · split
    · split <;> exact targetP_sub _ _ _ _ _ h
    · exact targetP_sub _ _ _ _ _ h
theorem linkP_alike {L M : Prs} {td tn c cv : Int} {xs : List Int} (h : Alike L M (linkP L td tn c cv xs).2.2.1) : linkP M td tn c cv xs = linkP L td tn c cv xs := by
  by_cases q : cv = 1000
  · unfold linkP
    rw [if_pos q, if_pos q]
  · have he : targetP M td tn xs = targetP L td tn xs := by
      refine targetP_alike (h.sub fun k hk => ?_)
      unfold linkP
      rw [if_neg q]
      split
      · split <;> exact hk
      · exact hk
    unfold linkP
    rw [he]
theorem childP_sub (L : Prs) (kd d n td tn vv ch : Int) (xs : List Int) (x : Int) (h : x ∈ addR xs (kI (minC ch))) : x ∈ (childP L kd d n td tn vv ch xs).2.2.1 := by
  unfold childP
  split
  · exact removeP_sub _ _ _ _ _ _ _ h
  · split
    · exact moveP_sub _ _ _ _ _ _ _ _ _ h
    · split
      · exact linkP_sub _ _ _ _ _ _ _ h
      · split
        · exact h
        · split
          · exact h
          · split
            · exact h
            · exact addR_sub h
theorem childP_alike {L M : Prs} {kd d n td tn vv ch : Int} {xs : List Int} (h : Alike L M (childP L kd d n td tn vv ch xs).2.2.1) : childP M kd d n td tn vv ch xs = childP L kd d n td tn vv ch xs := by
  have hk : lookF M (kI (minC ch)) = lookF L (kI (minC ch)) := h _ (childP_sub _ _ _ _ _ _ _ _ _ _ (addR_mem _ _))
  unfold childP at h ⊢
  rw [hk]
  by_cases q3 : kd = 3
  · rw [if_pos q3] at h ⊢
    rw [if_pos q3]
    exact removeP_alike h
  rw [if_neg q3] at h ⊢
  rw [if_neg q3]
  by_cases q4 : kd = 4
  · rw [if_pos q4] at h ⊢
    rw [if_pos q4]
    exact moveP_alike h
  rw [if_neg q4] at h ⊢
  rw [if_neg q4]
  by_cases q5 : kd = 5
  · rw [if_pos q5] at h ⊢
    rw [if_pos q5]
    exact linkP_alike h
  rw [if_neg q5] at h ⊢
  rw [if_neg q5]
  by_cases q8 : kd = 8
  · rw [if_pos q8, if_pos q8]
  rw [if_neg q8] at h ⊢
  rw [if_neg q8]
  by_cases qd : (lookF L (kI (minC ch))).2 = 1000
  · rw [if_pos qd, if_pos qd]
  rw [if_neg qd] at h ⊢
  rw [if_neg qd]
  by_cases q6 : kd = 6
  · rw [if_pos q6, if_pos q6]
  rw [if_neg q6] at h ⊢
  rw [if_neg q6, h _ (addR_mem _ _)]
theorem replyP_sub (L : Prs) (kd d n td tn vv : Int) : kI d ∈ (replyP L kd d n td tn vv).2.2.1 := by
  unfold replyP
  split
  · split
    · split
      · exact addR_sub (addR_mem _ _)
      · exact makeP_sub _ _ _ _ _ _ (addR_sub (addR_mem _ _))
    · split
      · exact childP_sub _ _ _ _ _ _ _ _ _ _ (addR_sub (addR_sub (addR_mem _ _)))
      · exact addR_sub (addR_mem _ _)
  · show kI d ∈ addR [] (kI d)
    exact addR_mem _ _
theorem replyP_name {L : Prs} {kd d n td tn vv : Int} (hd : dirB L d = true) : kE d n ∈ (replyP L kd d n td tn vv).2.2.1 := by
  unfold replyP
  rw [if_pos hd]
  split
  · split
    · exact addR_mem _ _
    · exact makeP_sub _ _ _ _ _ _ (addR_mem _ _)
  · split
    · exact childP_sub _ _ _ _ _ _ _ _ _ _ (addR_sub (addR_mem _ _))
    · exact addR_mem _ _
/-- A plan hangs on nothing but what it reads. -/
theorem replyP_alike {L M : Prs} {kd d n td tn vv : Int} (h : Alike L M (replyP L kd d n td tn vv).2.2.1) : replyP M kd d n td tn vv = replyP L kd d n td tn vv := by
  have hk : lookF M (kI d) = lookF L (kI d) := h _ (replyP_sub L kd d n td tn vv)
  by_cases hd : dirB L d = true
  · have he : lookF M (kE d n) = lookF L (kE d n) := h _ (replyP_name hd)
    unfold replyP at h ⊢
    rw [dirB_alike hk, he]
    rw [if_pos hd] at h ⊢
    rw [if_pos hd]
    by_cases q : kd = 1 ∨ kd = 2
    · rw [if_pos q] at h ⊢
      rw [if_pos q]
      by_cases e : (lookF L (kE d n)).1 = true
      · rw [if_pos e, if_pos e]
      · rw [if_neg e] at h ⊢
        rw [if_neg e]
        exact makeP_alike h
    · rw [if_neg q] at h ⊢
      rw [if_neg q]
      by_cases e : (lookF L (kE d n)).1 = true
      · rw [if_pos e] at h ⊢
        rw [if_pos e]
        exact childP_alike h
      · rw [if_neg e, if_neg e]
  · unfold replyP
    rw [dirB_alike hk, if_neg hd, if_neg hd]
/-- The entries of a view at the keys of a list. -/
def lessP (L : Prs) (xs : List Int) : Prs := L.filter fun e => decide (e.1 ∈ xs)
theorem lookF_less {xs : List Int} {k : Int} (hk : k ∈ xs) : ∀ L : Prs, lookF (lessP L xs) k = lookF L k
  | [] => rfl
  | e :: t => by
    have ih := lookF_less hk t
    unfold lessP at ih ⊢
    by_cases q : e.1 ∈ xs
    · rw [List.filter_cons_of_pos (by simpa using q), lookF_cons, lookF_cons, ih]
    · rw [List.filter_cons_of_neg (by simpa using q), lookF_cons, ih, if_neg (fun z : e.1 = k => q (by rw [z]; exact hk))]
theorem less_alike (L : Prs) (xs : List Int) : Alike L (lessP L xs) xs := fun _ hk => lookF_less hk L
theorem GoodP.less {L : Prs} (h : GoodP L) (xs : List Int) : GoodP (lessP L xs) :=
  ⟨h.1.sublist List.filter_sublist, fun e he => h.2 e (List.mem_filter.1 he |>.1)⟩
/-- A plan made of what it reads alone is the same plan. -/
theorem replyP_less (L : Prs) (kd d n td tn vv : Int) : replyP (lessP L (replyP L kd d n td tn vv).2.2.1) kd d n td tn vv = replyP L kd d n td tn vv := replyP_alike (less_alike _ _)
theorem reads_pos (L : Prs) (kd d n td tn vv : Int) : 0 < (replyP L kd d n td tn vv).2.2.1.length := List.length_pos_of_mem (replyP_sub L kd d n td tn vv)
/-- What comes to nothing writes nothing. -/
def Void (p : PRf) : Prop := p.1 ≠ 0 → p.2.2.2 = (0, [])
theorem Void.ite {c : Prop} [Decidable c] {a b : PRf} (ha : Void a) (hb : Void b) : Void (if c then a else b) := by
  split
  · exact ha
  · exact hb
theorem void_ok (v : Int) (xs : List Int) (m : Nat) (W : List Int) : Void (0, v, xs, m, W) := fun h => absurd rfl h
theorem void_no (r v : Int) (xs : List Int) : Void (r, v, xs, 0, []) := fun _ => rfl
theorem replyP_void (L : Prs) (kd d n td tn vv : Int) : Void (replyP L kd d n td tn vv) := by
  unfold replyP makeP childP removeP moveP linkP
  repeat' first
    | exact void_ok _ _ _ _
    | exact void_no _ _ _
    | refine Void.ite ?_ ?_
end Go.Proofs.Ytlkmcnghdfbapaa

namespace Go.Proofs.Ytlkmcnghdfbapaa
open Go.RowKit

theorem setCell_otherE {x : World} {b i j : Nat} {u v : Value} (hn : i ≠ j) (h : x.cell? ⟨b, i, none⟩ = some u) : (x.setCell ⟨b, j, none⟩ v).cell? ⟨b, i, none⟩ = some u := (World.cell?_setCell_other _ _ _ _ (fun e => hn (congrArg Addr.off e).symm)).trans h
theorem Blk6.put34 {x : World} {b : Nat} {a0 a1 a2 a3 a4 a5 : Value} (h : Blk6 x b a0 a1 a2 a3 a4 a5) (c3 c4 : Value) : Blk6 ((x.setCell ⟨b, 3, none⟩ c3).setCell ⟨b, 4, none⟩ c4) b a0 a1 a2 c3 c4 a5 := by
  obtain ⟨⟨h0, h1, h2, h3, h4, h5⟩, f0, f1, f2, f3, f4, f5⟩ := h
  refine ⟨⟨?_, ?_, ?_, ?_, ?_, ?_⟩, by simpa using f0, by simpa using f1, by simpa using f2, by simpa using f3, by simpa using f4, by simpa using f5⟩
  · exact setCell_otherE (by decide) (setCell_otherE (by decide) h0)
  · exact setCell_otherE (by decide) (setCell_otherE (by decide) h1)
  · exact setCell_otherE (by decide) (setCell_otherE (by decide) h2)
  · exact setCell_otherE (by decide) (World.cell?_setCell_same _ _ _ h3)
  · exact World.cell?_setCell_same _ _ _ (setCell_otherE (by decide) h4)
  · exact setCell_otherE (by decide) (setCell_otherE (by decide) h5)
theorem Blk6.putAll {x : World} {b : Nat} {a0 a1 a2 a3 a4 a5 : Value} (h : Blk6 x b a0 a1 a2 a3 a4 a5) (c0 c1 c2 c3 c4 c5 : Value) : Blk6 ((((((x.setCell ⟨b, 0, none⟩ c0).setCell ⟨b, 1, none⟩ c1).setCell ⟨b, 2, none⟩ c2).setCell ⟨b, 3, none⟩ c3).setCell ⟨b, 4, none⟩ c4).setCell ⟨b, 5, none⟩ c5) b c0 c1 c2 c3 c4 c5 := by
  obtain ⟨⟨h0, h1, h2, h3, h4, h5⟩, f0, f1, f2, f3, f4, f5⟩ := h
  refine ⟨⟨?_, ?_, ?_, ?_, ?_, ?_⟩, by simpa using f0, by simpa using f1, by simpa using f2, by simpa using f3, by simpa using f4, by simpa using f5⟩
  · exact setCell_otherE (by decide) (setCell_otherE (by decide) (setCell_otherE (by decide) (setCell_otherE (by decide) (setCell_otherE (by decide) (World.cell?_setCell_same _ _ _ h0)))))
  · exact setCell_otherE (by decide) (setCell_otherE (by decide) (setCell_otherE (by decide) (setCell_otherE (by decide) (World.cell?_setCell_same _ _ _ (setCell_otherE (by decide) h1)))))
  · exact setCell_otherE (by decide) (setCell_otherE (by decide) (setCell_otherE (by decide) (World.cell?_setCell_same _ _ _ (setCell_otherE (by decide) (setCell_otherE (by decide) h2)))))
  · exact setCell_otherE (by decide) (setCell_otherE (by decide) (World.cell?_setCell_same _ _ _ (setCell_otherE (by decide) (setCell_otherE (by decide) (setCell_otherE (by decide) h3)))))
  · exact setCell_otherE (by decide) (World.cell?_setCell_same _ _ _ (setCell_otherE (by decide) (setCell_otherE (by decide) (setCell_otherE (by decide) (setCell_otherE (by decide) h4)))))
  · exact World.cell?_setCell_same _ _ _ (setCell_otherE (by decide) (setCell_otherE (by decide) (setCell_otherE (by decide) (setCell_otherE (by decide) (setCell_otherE (by decide) h5)))))

end Go.Proofs.Ytlkmcnghdfbapaa

namespace Go.Proofs.Ytlkmcnghdfbapaa
open Go.RowKit

/-- An operation that was drawn: it suits, and nothing in it is great. -/
def DrawnO (kd d n td tn v : Int) : Prop := (1 ≤ kd ∧ kd ≤ 8) ∧ (0 ≤ d ∧ d ≤ 2) ∧ (0 ≤ n ∧ n ≤ 2) ∧ ((kd = 4 ∨ kd = 5) ∧ (0 ≤ td ∧ td ≤ 2) ∧ (0 ≤ tn ∧ tn ≤ 3) ∨ td = 0 ∧ tn = 0) ∧ (kd = 6 ∧ (0 ≤ v ∧ v ≤ 98) ∨ v = 0)
def zeroO : Obj := .cells #[.int .i64 0, .int .i64 0, .int .i64 0, .int .i64 0, .int .i64 0, .int .i64 0] 26
structure DrO (w : World) (b : Nat) (o : Option Addr) (len cap : Nat) (a : Int) (x : World) : Prop where
  src : Src x b o len cap a
  but : But b w x
  res : Blk6 x w.heap.size (.int .i64 0) (.int .i64 0) (.int .i64 0) (.int .i64 0) (.int .i64 0) (.int .i64 0)
theorem DrO.alloc {w x : World} {b : Nat} {o : Option Addr} {len cap : Nat} {a : Int} (h : DrO w b o len cap a x) (ob : Obj) : DrO w b o len cap a (x.alloc ob) := ⟨h.src.alloc _, h.but.alloc _, h.res.alloc _⟩
theorem DrO.step {w x x' : World} {b : Nat} {o : Option Addr} {len cap : Nat} {a a' : Int} (h : DrO w b o len cap a x) (hb : b < w.heap.size) (hS : Src x' b o len cap a') (hT : But b x x') : DrO w b o len cap a' x' :=
  ⟨hS, h.but.trans hT, h.res.kept (hT.block _ h.res.lt (fun e => by have := Option.some.inj e; omega))⟩
def pickA : Array Value := #[.int .i64 1, .int .i64 1, .int .i64 2, .int .i64 2, .int .i64 3, .int .i64 4, .int .i64 5, .int .i64 6, .int .i64 6, .int .i64 7, .int .i64 8]
def pickB : Array Value := #[.int .i64 0, .int .i64 0, .int .i64 1, .int .i64 2]
theorem intsA (x : World) : Ints (x.alloc (.cells #[.int .i64 1, .int .i64 1, .int .i64 2, .int .i64 2, .int .i64 3, .int .i64 4, .int .i64 5, .int .i64 6, .int .i64 6, .int .i64 7, .int .i64 8] 2)) x.heap.size (.slice (some ⟨x.heap.size, 0, none⟩) 11 11) [1, 1, 2, 2, 3, 4, 5, 6, 6, 7, 8] := World.ownsRow_lit x pickA 11 (Nat.le_refl _) (by decide) rfl
theorem intsB (x : World) : Ints (x.alloc (.cells #[.int .i64 0, .int .i64 0, .int .i64 1, .int .i64 2] 2)) x.heap.size (.slice (some ⟨x.heap.size, 0, none⟩) 4 4) [0, 0, 1, 2] := World.ownsRow_lit x pickB 4 (Nat.le_refl _) (by decide) rfl
theorem memB {r : Int} (h : r ∈ [(0 : Int), 0, 1, 2]) : 0 ≤ r ∧ r ≤ 2 := by
  simp only [List.mem_cons, List.not_mem_nil, or_false] at h
  omega
theorem memA {r : Int} (h : r ∈ [(1 : Int), 1, 2, 2, 3, 4, 5, 6, 6, 7, 8]) : 1 ≤ r ∧ r ≤ 8 := by
  simp only [List.mem_cons, List.not_mem_nil, or_false] at h
  omega
/-- Behind the build: the operation's box. -/
structure DrB (w : World) (b : Nat) (o : Option Addr) (len cap : Nat) (g : Nat) (kd d n td tn v : Int) (a : Int) (x : World) : Prop where
  dr : DrO w b o len cap a x
  box : Blk6 x g (.int .i64 kd) (.int .i64 d) (.int .i64 n) (.int .i64 td) (.int .i64 tn) (.int .i64 v)
  lt : w.heap.size < g
theorem DrB.step {w x x' : World} {b : Nat} {o : Option Addr} {len cap g : Nat} {kd d n td tn v a a' : Int} (h : DrB w b o len cap g kd d n td tn v a x) (hb : b < w.heap.size) (hS : Src x' b o len cap a') (hT : But b x x') : DrB w b o len cap g kd d n td tn v a' x' :=
  ⟨h.dr.step hb hS hT, h.box.kept (hT.block _ h.box.lt (fun e => by have := Option.some.inj e; have := h.lt; omega)), h.lt⟩
theorem DrB.alloc {w x : World} {b : Nat} {o : Option Addr} {len cap g : Nat} {kd d n td tn v a : Int} (h : DrB w b o len cap g kd d n td tn v a x) (ob : Obj) : DrB w b o len cap g kd d n td tn v a (x.alloc ob) := ⟨h.dr.alloc _, h.box.alloc _, h.lt⟩
theorem But.setO {b : Nat} {w x : World} (h : But b w x) {c : Nat} (hc : w.heap.size ≤ c) (off : Nat) (v : Value) : But b w (x.setCell ⟨c, off, none⟩ v) :=
  ⟨h.os, h.tape, h.output, by simpa [World.setCell] using h.size, fun k hk hne => (Below.heap_setCell x ⟨c, off, none⟩ v k (by simp; omega)).trans (h.block k hk hne)⟩
theorem Src.setO {x : World} {b : Nat} {o : Option Addr} {len cap : Nat} {a : Int} (h : Src x b o len cap a) {w : World} {a0 : Int} (h0 : Src w b o len cap a0) (hT : But b w x) {c : Nat} (hc : w.heap.size ≤ c) (off : Nat) (v : Value) : Src (x.setCell ⟨c, off, none⟩ v) b o len cap a := by
  have hb := h0.lt
  have kb : (x.setCell ⟨c, off, none⟩ v).heap[b]? = x.heap[b]? := Below.heap_setCell x ⟨c, off, none⟩ v b (by simp; omega)
  refine ⟨(World.cell?_of_block (w := x) (a := ⟨b, 0, none⟩) kb).trans h.code, (World.cell?_of_block (w := x) (a := ⟨b, 1, none⟩) kb).trans h.count, (World.frozen?_of_block (w := x) (a := ⟨b, 1, none⟩) kb).trans h.live, h.pos, fun j hj => ?_⟩
  obtain ⟨g, off', n, e1, e2, e3, e4⟩ := h0.bytes j hj
  exact ⟨g, off', n, e1, e2, (hT.setO hc off v).cell e3 e2, e4⟩
theorem DrO.set {w x : World} {b : Nat} {o : Option Addr} {len cap : Nat} {a : Int} (h : DrO w b o len cap a x) {a0 : Int} (h0 : Src w b o len cap a0) {c : Nat} (hc : w.heap.size < c) (off : Nat) (v : Value) : DrO w b o len cap a (x.setCell ⟨c, off, none⟩ v) :=
  ⟨h.src.setO h0 h.but (by omega) off v, h.but.setO (by omega) off v, h.res.kept (Below.heap_setCell x ⟨c, off, none⟩ v _ (by simp; omega))⟩
theorem DrB.put34 {w x : World} {b : Nat} {o : Option Addr} {len cap g : Nat} {kd d n td tn v a : Int} (h : DrB w b o len cap g kd d n td tn v a x) {a0 : Int} (h0 : Src w b o len cap a0) (u : Int) (j : Nat) (hj : j = 3 ∨ j = 4 ∨ j = 5) :
    DrB w b o len cap g kd d n (if j = 3 then u else td) (if j = 4 then u else tn) (if j = 5 then u else v) a (x.setCell ⟨g, j, none⟩ (.int .i64 u)) := by
  refine ⟨h.dr.set h0 h.lt _ _, ?_, h.lt⟩
  obtain ⟨⟨c0, c1, c2, c3, c4, c5⟩, f0, f1, f2, f3, f4, f5⟩ := h.box
  rcases hj with rfl | rfl | rfl
  · refine ⟨⟨?_, ?_, ?_, ?_, ?_, ?_⟩, by simpa using f0, by simpa using f1, by simpa using f2, by simpa using f3, by simpa using f4, by simpa using f5⟩
    · exact setCell_otherE (by decide) c0
    · exact setCell_otherE (by decide) c1
    · exact setCell_otherE (by decide) c2
    · exact World.cell?_setCell_same _ _ _ c3
    · exact setCell_otherE (by decide) c4
    · exact setCell_otherE (by decide) c5
  · refine ⟨⟨?_, ?_, ?_, ?_, ?_, ?_⟩, by simpa using f0, by simpa using f1, by simpa using f2, by simpa using f3, by simpa using f4, by simpa using f5⟩
    · exact setCell_otherE (by decide) c0
    · exact setCell_otherE (by decide) c1
    · exact setCell_otherE (by decide) c2
    · exact setCell_otherE (by decide) c3
    · exact World.cell?_setCell_same _ _ _ c4
    · exact setCell_otherE (by decide) c5
  · refine ⟨⟨?_, ?_, ?_, ?_, ?_, ?_⟩, by simpa using f0, by simpa using f1, by simpa using f2, by simpa using f3, by simpa using f4, by simpa using f5⟩
    · exact setCell_otherE (by decide) c0
    · exact setCell_otherE (by decide) c1
    · exact setCell_otherE (by decide) c2
    · exact setCell_otherE (by decide) c3
    · exact setCell_otherE (by decide) c4
    · exact World.cell?_setCell_same _ _ _ c5
end Go.Proofs.Ytlkmcnghdfbapaa

namespace Go.Proofs.Ytlkmcnghdfbapaa
open Go.RowKit

theorem DrO.fin {w x : World} {b : Nat} {o : Option Addr} {len cap : Nat} {a a0 : Int} (h : DrO w b o len cap a x) (h0 : Src w b o len cap a0) (c0 c1 c2 c3 c4 c5 : Value) :
    Src ((((((x.setCell ⟨w.heap.size, 0, none⟩ c0).setCell ⟨w.heap.size, 1, none⟩ c1).setCell ⟨w.heap.size, 2, none⟩ c2).setCell ⟨w.heap.size, 3, none⟩ c3).setCell ⟨w.heap.size, 4, none⟩ c4).setCell ⟨w.heap.size, 5, none⟩ c5) b o len cap a ∧
      But b w ((((((x.setCell ⟨w.heap.size, 0, none⟩ c0).setCell ⟨w.heap.size, 1, none⟩ c1).setCell ⟨w.heap.size, 2, none⟩ c2).setCell ⟨w.heap.size, 3, none⟩ c3).setCell ⟨w.heap.size, 4, none⟩ c4).setCell ⟨w.heap.size, 5, none⟩ c5) := by
  have l := Nat.le_refl w.heap.size
  have s0 := h.src.setO h0 h.but l 0 c0
  have t0 := h.but.setO l 0 c0
  have s1 := s0.setO h0 t0 l 1 c1
  have t1 := t0.setO l 1 c1
  have s2 := s1.setO h0 t1 l 2 c2
  have t2 := t1.setO l 2 c2
  have s3 := s2.setO h0 t2 l 3 c3
  have t3 := t2.setO l 3 c3
  have s4 := s3.setO h0 t3 l 4 c4
  have t4 := t3.setO l 4 c4
  exact ⟨s4.setO h0 t4 l 5 c5, t4.setO l 5 c5⟩
theorem intsAg (x : World) (g : Nat) (hg : x.heap.size = g) : Ints (x.alloc (.cells #[.int .i64 1, .int .i64 1, .int .i64 2, .int .i64 2, .int .i64 3, .int .i64 4, .int .i64 5, .int .i64 6, .int .i64 6, .int .i64 7, .int .i64 8] 2)) g (.slice (some ⟨g, 0, none⟩) 11 11) [1, 1, 2, 2, 3, 4, 5, 6, 6, 7, 8] := hg ▸ intsA x
theorem intsBg (x : World) (g : Nat) (hg : x.heap.size = g) : Ints (x.alloc (.cells #[.int .i64 0, .int .i64 0, .int .i64 1, .int .i64 2] 2)) g (.slice (some ⟨g, 0, none⟩) 4 4) [0, 0, 1, 2] := hg ▸ intsB x
theorem hidPln {p : Prop} (h : p) : Hid p := h
set_option maxRecDepth 100000 in
set_option maxHeartbeats 4000000 in
theorem l13Draw_any (w : World) (b : Nat) (o : Option Addr) (len cap : Nat) (a : Int) (h : Src w b o len cap a) (ha : a ≤ 900000) (hl : len ≤ 1048576) :
    Calls Try.prog 12 #[.pointer (some ⟨b, 0, none⟩)] w fun e w' => ∃ kd d n td tn v a1 : Int, e = .returned (.agg #[.int .i64 kd, .int .i64 d, .int .i64 n, .int .i64 td, .int .i64 tn, .int .i64 v]) ∧ DrawnO kd d n td tn v ∧ a1 ≤ a + 6 ∧ Src w' b o len cap a1 ∧ But b w w' := by
  have H : Hid (Src w b o len cap a) := h
  have hbl := h.lt
  have H0 : Hid (DrO w b o len cap a (w.alloc zeroO)) := ⟨h.alloc _, (But.refl _ _).alloc _, Blk6.new w _ _ _ _ _ _ _⟩
  clear h
  go_enter Try.func12, Try.ntmps12
  go_wp2_with fail
  refine (l1Pick_any _ b o len cap a _ _ [1, 1, 2, 2, 3, 4, 5, 6, 6, 7, 8] (H0.out.src.alloc _) (by omega) hl (intsAg (w.alloc zeroO) (w.heap.size + 1) (World.size_alloc _ _)) (by omega) (by simp) (by simp)).mono ?_
  rintro e w1 ⟨kd, rfl, mk, hS, hT⟩
  have H1 : Hid (DrO w b o len cap (a + 1) w1) := (H0.out.alloc _).step hbl hS hT
  have mk' := memA mk
  clear hS hT H0 mk
  go_wp2_with fail
  refine (l1Pick_any _ b o len cap (a + 1) _ _ [0, 0, 1, 2] (H1.out.src.alloc _) (by omega) hl (intsBg w1 w1.heap.size rfl) H1.out.src.lt (by simp) (by simp)).mono ?_
  rintro e w2 ⟨d, rfl, md, hS, hT⟩
  have H2 : Hid (DrO w b o len cap (a + 1 + 1) w2) := (H1.out.alloc _).step hbl hS hT
  have md' := memB md
  clear hS hT H1 md
  go_wp2_with fail
  refine (l1Next_any _ b o len cap (a + 1 + 1) 3 H2.out.src (by omega) hl).mono ?_
  rintro e w3 ⟨n, rfl, n0, n1, hS, hT⟩
  have n3 := n1 (by omega)
  have HW3 : Hid (DrO w b o len cap (a + 1 + 1 + 1) w3) := H2.out.step hbl hS hT
  have H3 : Hid (DrB w b o len cap w3.heap.size kd d n 0 0 0 (a + 1 + 1 + 1) (w3.alloc (.cells #[.int .i64 kd, .int .i64 d, .int .i64 n, .int .i64 0, .int .i64 0, .int .i64 0] 26))) := ⟨HW3.out.alloc _, Blk6.new w3 _ _ _ _ _ _ _, HW3.out.res.lt⟩
  clear hS hT H2 n1
  obtain ⟨⟨q0, q1, q2, q3, q4, q5⟩, p0, p1, p2, p3, p4, p5⟩ := HW3.out.res
  have hwl := HW3.out.res.lt
  rcases (show kd = 4 ∨ kd = 5 ∨ kd = 6 ∨ (kd ≠ 4 ∧ kd ≠ 5 ∧ kd ≠ 6) by omega) with rfl | rfl | rfl | ⟨k4, k5, k6⟩
  · obtain ⟨⟨c0, c1, c2, c3, c4, c5⟩, f0, f1, f2, f3, f4, f5⟩ := H3.out.box
    obtain ⟨⟨r0, r1, r2, r3, r4, r5⟩, g0, g1, g2, g3, g4, g5⟩ := H3.out.dr.res
    have hgl := H3.out.lt
    go_wp2_with fail
    refine (l1Pick_any _ b o len cap (a + 1 + 1 + 1) _ _ [0, 0, 1, 2] (H3.out.dr.src.alloc _) (by omega) hl (intsBg (w3.alloc (.cells #[.int .i64 4, .int .i64 d, .int .i64 n, .int .i64 0, .int .i64 0, .int .i64 0] 26)) (w3.heap.size + 1) (World.size_alloc _ _)) (by omega) (by simp) (by simp)).mono ?_
    rintro e w4 ⟨td, rfl, mtd, hS, hT⟩
    have H4 : Hid (DrB w b o len cap w3.heap.size 4 d n 0 0 0 (a + 1 + 1 + 1 + 1) w4) := (H3.out.alloc _).step hbl hS hT
    clear c0 c1 c2 c3 c4 c5 f0 f1 f2 f3 f4 f5 r0 r1 r2 r3 r4 r5 g0 g1 g2 g3 g4 g5
    clear hS hT H3 hgl
    obtain ⟨⟨c0, c1, c2, c3, c4, c5⟩, f0, f1, f2, f3, f4, f5⟩ := H4.out.box
    obtain ⟨⟨r0, r1, r2, r3, r4, r5⟩, g0, g1, g2, g3, g4, g5⟩ := H4.out.dr.res
    have hgl := H4.out.lt
    have H5 : Hid (DrB w b o len cap w3.heap.size 4 d n td 0 0 (a + 1 + 1 + 1 + 1) (w4.setCell ⟨w3.heap.size, 3, none⟩ (.int .i64 td))) := H4.out.put34 H.out td 3 (Or.inl rfl)
    go_wp2_with fail
    refine (l1Next_any _ b o len cap (a + 1 + 1 + 1 + 1) 4 H5.out.dr.src (by omega) hl).mono ?_
    rintro e w5 ⟨tn, rfl, tn0, tn1, hS, hT⟩
    have H6 : Hid (DrB w b o len cap w3.heap.size 4 d n td 0 0 (a + 1 + 1 + 1 + 1 + 1) w5) := H5.out.step hbl hS hT
    clear c0 c1 c2 c3 c4 c5 f0 f1 f2 f3 f4 f5 r0 r1 r2 r3 r4 r5 g0 g1 g2 g3 g4 g5
    clear hS hT H4 H5 hgl
    obtain ⟨⟨c0, c1, c2, c3, c4, c5⟩, f0, f1, f2, f3, f4, f5⟩ := H6.out.box
    obtain ⟨⟨r0, r1, r2, r3, r4, r5⟩, g0, g1, g2, g3, g4, g5⟩ := H6.out.dr.res
    have hgl := H6.out.lt
    have H7 : Hid (DrB w b o len cap w3.heap.size 4 d n td tn 0 (a + 1 + 1 + 1 + 1 + 1) (w5.setCell ⟨w3.heap.size, 4, none⟩ (.int .i64 tn))) := H6.out.put34 H.out tn 4 (Or.inr (Or.inl rfl))
    have tn4 := tn1 (by omega)
    have mtd' := memB mtd
    have HD : Hid (DrawnO 4 d n td tn 0) := ⟨by omega, md', ⟨n0, by omega⟩, Or.inl ⟨by omega, mtd', tn0, by omega⟩, Or.inr rfl⟩
    clear mtd H6
    have KL := hidPln (H7.out.dr.res.putAll (.int .i64 4) (.int .i64 d) (.int .i64 n) (.int .i64 td) (.int .i64 tn) (.int .i64 0))
    obtain ⟨⟨c0, c1, c2, c3, c4, c5⟩, f0, f1, f2, f3, f4, f5⟩ := H7.out.box
    obtain ⟨⟨r0, r1, r2, r3, r4, r5⟩, g0, g1, g2, g3, g4, g5⟩ := H7.out.dr.res
    have hgl := H7.out.lt
    go_wp2
    obtain ⟨⟨e0, e1, e2, e3, e4, e5⟩, _⟩ := KL.out
    refine bodyPost_ret (v := .agg #[.int .i64 4, .int .i64 d, .int .i64 n, .int .i64 td, .int .i64 tn, .int .i64 0]) (by simp [results, Try.results12, go_sem, e0, e1, e2, e3, e4, e5]) rfl ?_
    exact ⟨_, _, _, _, _, _, _, rfl, HD.out, by omega, H7.out.dr.fin H.out _ _ _ _ _ _⟩
  · obtain ⟨⟨c0, c1, c2, c3, c4, c5⟩, f0, f1, f2, f3, f4, f5⟩ := H3.out.box
    obtain ⟨⟨r0, r1, r2, r3, r4, r5⟩, g0, g1, g2, g3, g4, g5⟩ := H3.out.dr.res
    have hgl := H3.out.lt
    go_wp2_with fail
    refine (l1Pick_any _ b o len cap (a + 1 + 1 + 1) _ _ [0, 0, 1, 2] (H3.out.dr.src.alloc _) (by omega) hl (intsBg (w3.alloc (.cells #[.int .i64 5, .int .i64 d, .int .i64 n, .int .i64 0, .int .i64 0, .int .i64 0] 26)) (w3.heap.size + 1) (World.size_alloc _ _)) (by omega) (by simp) (by simp)).mono ?_
    rintro e w4 ⟨td, rfl, mtd, hS, hT⟩
    have H4 : Hid (DrB w b o len cap w3.heap.size 5 d n 0 0 0 (a + 1 + 1 + 1 + 1) w4) := (H3.out.alloc _).step hbl hS hT
    clear c0 c1 c2 c3 c4 c5 f0 f1 f2 f3 f4 f5 r0 r1 r2 r3 r4 r5 g0 g1 g2 g3 g4 g5
    clear hS hT H3 hgl
    obtain ⟨⟨c0, c1, c2, c3, c4, c5⟩, f0, f1, f2, f3, f4, f5⟩ := H4.out.box
    obtain ⟨⟨r0, r1, r2, r3, r4, r5⟩, g0, g1, g2, g3, g4, g5⟩ := H4.out.dr.res
    have hgl := H4.out.lt
    have H5 : Hid (DrB w b o len cap w3.heap.size 5 d n td 0 0 (a + 1 + 1 + 1 + 1) (w4.setCell ⟨w3.heap.size, 3, none⟩ (.int .i64 td))) := H4.out.put34 H.out td 3 (Or.inl rfl)
    go_wp2_with fail
    refine (l1Next_any _ b o len cap (a + 1 + 1 + 1 + 1) 4 H5.out.dr.src (by omega) hl).mono ?_
    rintro e w5 ⟨tn, rfl, tn0, tn1, hS, hT⟩
    have H6 : Hid (DrB w b o len cap w3.heap.size 5 d n td 0 0 (a + 1 + 1 + 1 + 1 + 1) w5) := H5.out.step hbl hS hT
    clear c0 c1 c2 c3 c4 c5 f0 f1 f2 f3 f4 f5 r0 r1 r2 r3 r4 r5 g0 g1 g2 g3 g4 g5
    clear hS hT H4 H5 hgl
    obtain ⟨⟨c0, c1, c2, c3, c4, c5⟩, f0, f1, f2, f3, f4, f5⟩ := H6.out.box
    obtain ⟨⟨r0, r1, r2, r3, r4, r5⟩, g0, g1, g2, g3, g4, g5⟩ := H6.out.dr.res
    have hgl := H6.out.lt
    have H7 : Hid (DrB w b o len cap w3.heap.size 5 d n td tn 0 (a + 1 + 1 + 1 + 1 + 1) (w5.setCell ⟨w3.heap.size, 4, none⟩ (.int .i64 tn))) := H6.out.put34 H.out tn 4 (Or.inr (Or.inl rfl))
    have tn4 := tn1 (by omega)
    have mtd' := memB mtd
    have HD : Hid (DrawnO 5 d n td tn 0) := ⟨by omega, md', ⟨n0, by omega⟩, Or.inl ⟨by omega, mtd', tn0, by omega⟩, Or.inr rfl⟩
    clear mtd H6
    have KL := hidPln (H7.out.dr.res.putAll (.int .i64 5) (.int .i64 d) (.int .i64 n) (.int .i64 td) (.int .i64 tn) (.int .i64 0))
    obtain ⟨⟨c0, c1, c2, c3, c4, c5⟩, f0, f1, f2, f3, f4, f5⟩ := H7.out.box
    obtain ⟨⟨r0, r1, r2, r3, r4, r5⟩, g0, g1, g2, g3, g4, g5⟩ := H7.out.dr.res
    have hgl := H7.out.lt
    go_wp2
    obtain ⟨⟨e0, e1, e2, e3, e4, e5⟩, _⟩ := KL.out
    refine bodyPost_ret (v := .agg #[.int .i64 5, .int .i64 d, .int .i64 n, .int .i64 td, .int .i64 tn, .int .i64 0]) (by simp [results, Try.results12, go_sem, e0, e1, e2, e3, e4, e5]) rfl ?_
    exact ⟨_, _, _, _, _, _, _, rfl, HD.out, by omega, H7.out.dr.fin H.out _ _ _ _ _ _⟩
  · go_wp2_with fail
    refine (l1Next_any _ b o len cap (a + 1 + 1 + 1) 99 H3.out.dr.src (by omega) hl).mono ?_
    rintro e w4 ⟨v, rfl, v0, v1, hS, hT⟩
    have H4 : Hid (DrB w b o len cap w3.heap.size 6 d n 0 0 0 (a + 1 + 1 + 1 + 1) w4) := H3.out.step hbl hS hT
    have v9 := v1 (by omega)
    clear hS hT H3 v1
    obtain ⟨⟨c0, c1, c2, c3, c4, c5⟩, f0, f1, f2, f3, f4, f5⟩ := H4.out.box
    obtain ⟨⟨r0, r1, r2, r3, r4, r5⟩, g0, g1, g2, g3, g4, g5⟩ := H4.out.dr.res
    have hgl := H4.out.lt
    have H5 : Hid (DrB w b o len cap w3.heap.size 6 d n 0 0 v (a + 1 + 1 + 1 + 1) (w4.setCell ⟨w3.heap.size, 5, none⟩ (.int .i64 v))) := H4.out.put34 H.out v 5 (Or.inr (Or.inr rfl))
    have HD : Hid (DrawnO 6 d n 0 0 v) := ⟨by omega, md', ⟨n0, by omega⟩, Or.inr ⟨rfl, rfl⟩, Or.inl ⟨rfl, v0, by omega⟩⟩
    clear H4
    have KL := hidPln (H5.out.dr.res.putAll (.int .i64 6) (.int .i64 d) (.int .i64 n) (.int .i64 0) (.int .i64 0) (.int .i64 v))
    obtain ⟨⟨c0, c1, c2, c3, c4, c5⟩, f0, f1, f2, f3, f4, f5⟩ := H5.out.box
    obtain ⟨⟨r0, r1, r2, r3, r4, r5⟩, g0, g1, g2, g3, g4, g5⟩ := H5.out.dr.res
    have hgl := H5.out.lt
    go_wp2
    obtain ⟨⟨e0, e1, e2, e3, e4, e5⟩, _⟩ := KL.out
    refine bodyPost_ret (v := .agg #[.int .i64 6, .int .i64 d, .int .i64 n, .int .i64 0, .int .i64 0, .int .i64 v]) (by simp [results, Try.results12, go_sem, e0, e1, e2, e3, e4, e5]) rfl ?_
    exact ⟨_, _, _, _, _, _, _, rfl, HD.out, by omega, H5.out.dr.fin H.out _ _ _ _ _ _⟩
  · have d4 : (kd == 4) = false := by simp [k4]
    have d5 : (kd == 5) = false := by simp [k5]
    have d6 : (kd == 6) = false := by simp [k6]
    have HD : Hid (DrawnO kd d n 0 0 0) := ⟨mk', md', ⟨n0, by omega⟩, Or.inr ⟨rfl, rfl⟩, Or.inr rfl⟩
    clear k4 k5 k6
    go_upto_region 2 with fail
    generalize w3.alloc (.cells #[.int .i64 kd, .int .i64 d, .int .i64 n, .int .i64 0, .int .i64 0, .int .i64 0] 26) = x3 at H3 ⊢
    clear q0 q1 q2 q3 q4 q5 p0 p1 p2 p3 p4 p5
    have KL := hidPln (H3.out.dr.res.putAll (.int .i64 kd) (.int .i64 d) (.int .i64 n) (.int .i64 0) (.int .i64 0) (.int .i64 0))
    obtain ⟨⟨c0, c1, c2, c3, c4, c5⟩, f0, f1, f2, f3, f4, f5⟩ := H3.out.box
    obtain ⟨⟨r0, r1, r2, r3, r4, r5⟩, g0, g1, g2, g3, g4, g5⟩ := H3.out.dr.res
    have hgl := H3.out.lt
    go_wp2
    obtain ⟨⟨e0, e1, e2, e3, e4, e5⟩, _⟩ := KL.out
    refine bodyPost_ret (v := .agg #[.int .i64 kd, .int .i64 d, .int .i64 n, .int .i64 0, .int .i64 0, .int .i64 0]) (by simp [results, Try.results12, go_sem, e0, e1, e2, e3, e4, e5]) rfl ?_
    exact ⟨_, _, _, _, _, _, _, rfl, HD.out, by omega, H3.out.dr.fin H.out _ _ _ _ _ _⟩
end Go.Proofs.Ytlkmcnghdfbapaa

namespace Go.Proofs.Ytlkmcnghdfbapaa
open Go.RowKit

theorem field_plan4 (a b c d e : Value) (w : World) : (Instr.field 32 (.agg #[a, b, c, d, e]) 4).run Try.prog w = .ok e w := by kernel_rfl
theorem DrawnO.op {kd d n td tn v : Int} (h : DrawnO kd d n td tn v) : opF kd d n td tn v = 0 := by
  obtain ⟨h1, h2, h3, h4, h5⟩ := h
  exact opF_ok (decide_eq_true (by omega)) (decide_eq_true (by omega))
theorem Own.butD {x x' w : World} {b : Nat} {e : TypeId} {m n : Nat} {F : Nat → Int} {v : Value} (h : Own x w.heap.size e m n F v) (hT : But b x x') (hb : b < w.heap.size) : Own x' w.heap.size e m n F v :=
  h.keptT (fun k hk => hT.block k (own_in h k hk).2 (fun q => by have := (own_in h k hk).1; cases q; omega))
/-- What stands while a view grows. -/
def VwG (w : World) (b : Nat) (o : Option Addr) (len cap : Nat) (a : Int) (L : Prs) (u : Value) (x : World) : Prop := Src x b o len cap a ∧ But b w x ∧ Own x w.heap.size 36 2 L.length (rowL L) u
theorem VwG.below {w x x' : World} {b : Nat} {o : Option Addr} {len cap : Nat} {a : Int} {L : Prs} {u : Value} (h : VwG w b o len cap a L u x) (hb : Below x.heap.size x x') : VwG w b o len cap a L u x' := ⟨h.1.later hb, h.2.1.below hb, h.2.2.later hb⟩
set_option maxRecDepth 100000 in
set_option maxHeartbeats 4000000 in
theorem l13View_any (w : World) (b : Nat) (o : Option Addr) (len cap : Nat) (a : Int) (q : Nat) (h : Src w b o len cap a) (hq : q ≤ 100) (ha : a ≤ 800000) (hl : len ≤ 1048576) :
    Calls Try.prog 22 #[.pointer (some ⟨b, 0, none⟩), .int .i64 q] w fun e w' => ∃ (L : Prs) (ao : Option Addr) (cp : Nat) (a1 : Int), e = .returned (.slice ao L.length cp) ∧ GoodP L ∧ a1 ≤ a + 6 * q ∧ VwG w b o len cap a1 L (.slice ao L.length cp) w' := by
  have H : Hid (Src w b o len cap a) := h
  have hbl := h.lt
  have hfd := field_plan4
  clear h
  go_enter Try.func22, Try.ntmps22
  go_wp2_with fail
  refine (specEmpty_is 1 0 2 [0, 1, 1, 10, 1, 1000] _ (Or.inr ⟨by decide, rfl, rfl, rfl⟩)).mono ?_
  rintro e w1 ⟨vr, vw, rfl, ⟨_, hW, _⟩, q1⟩
  have H1 : Hid (Row w1 0 3 2 (fun p => [(0 : Int), 1, 1, 10, 1, 1000].getD p 0) vw ∧ Below w.heap.size w w1) := ⟨(OwnM.rowL hW).1.mono (Nat.zero_le _), q1⟩
  clear hW q1
  go_wp2_with fail
  refine (l11Apply_any [] (fun p => [(0 : Int), 1, 1, 10, 1, 1000].getD p 0) 2 (.slice none 0 0) vw 0 0 _ ⟨_, _, rfl, fun q => absurd q (Nat.lt_irrefl 0)⟩ H1.out.1 (by simp) (by decide) (fun i hi => by
    match i, hi with
    | 0, _ => exact ⟨by decide, by decide⟩
    | 1, _ => exact ⟨by decide, by decide⟩)).mono ?_
  rintro e w2 ⟨uo, uc, rfl, hO, q2⟩
  obtain ⟨V0, hV0⟩ : ∃ V0, applyN [] (fun p => [(0 : Int), 1, 1, 10, 1, 1000].getD p 0) 2 = V0 := ⟨_, rfl⟩
  have hg0 : GoodP V0 := by
    rw [← hV0]
    refine GoodP.apply ⟨List.Pairwise.nil, fun e he => absurd he (by simp)⟩ (fun i hi => ?_)
    match i, hi with
    | 0, _ => decide
    | 1, _ => decide
  rw [hV0] at hO ⊢
  have H2 : Hid (VwG w b o len cap a V0 (.slice uo V0.length uc) w2 ∧ GoodP V0) := ⟨⟨H.out.later (H1.out.2.trans (q2.mono H1.out.2.size)), (But.refl b w).below (H1.out.2.trans (q2.mono H1.out.2.size)), hO.mono H1.out.2.size⟩, hg0⟩
  clear hO q2 H1 hV0 hg0
  go_wp2
  go_loopw [1, 5] (fun i out wr => ∃ (k : Nat) (L : Prs) (ao : Option Addr) (cp : Nat) (a1 : Int), k ≤ q ∧ i = .int .i64 k ∧ out = .slice ao L.length cp ∧ a1 + 6 * k ≤ a + 6 * q ∧ Hid (VwG w b o len cap a1 L (.slice ao L.length cp) wr ∧ GoodP L)) (fun i _ _ => (intOf i).toNat)
  case atStart => exact ⟨q, V0, uo, uc, a, Nat.le_refl _, rfl, rfl, by omega, H2⟩
  case round =>
    clear H2
    obtain ⟨k, L, ao, cp, a1, hk, rfl, rfl, hak, HB⟩ := hrel
    obtain ⟨wa, rfl⟩ : ∃ x, x = wr := ⟨_, rfl⟩
    by_cases hlt : 0 < k
    case neg =>
      obtain rfl : k = 0 := by omega
      obtain ⟨LN, hLN⟩ : ∃ LN, L.length = LN := ⟨_, rfl⟩
      have HLN : Hid (L.length = LN) := hLN
      rw [hLN]
      clear hLN
      go_wp2
      refine bodyPost_ret (v := .slice ao LN cp) (by simp [results, Try.results22, go_sem]) rfl ?_
      rw [← HLN.out]
      exact ⟨L, ao, cp, a1, rfl, HB.out.2, by omega, HB.out.1⟩
    go_wp2_with fail
    refine (l13Draw_any _ b o len cap a1 HB.out.1.1 (by omega) hl).mono ?_
    rintro e w3 ⟨kd, d, n, td, tn, v, a2, rfl, hd, ha2, hS, hT⟩
    have hop := hd.op
    have hbd := op_bounds hop
    have H3 : Hid (VwG w b o len cap a2 L (.slice ao L.length cp) w3 ∧ GoodP L) := ⟨⟨hS, HB.out.1.2.1.trans hT, HB.out.1.2.2.butD hT hbl⟩, HB.out.2⟩
    have HA : Hid (a2 ≤ a1 + 6) := ha2
    clear hS hT HB hd ha2
    obtain ⟨r, vv, ys, m, W, hp⟩ : ∃ r vv ys m W, replyP L kd d n td tn v = (r, vv, ys, m, W) := ⟨_, _, _, _, _, rfl⟩
    have HI : Hid (ItemsOk m W ∧ GoodP (applyN L (fun p => W.getD p 0) m)) := by
      have i1 := (reply_items H3.out.2.vals hop).1
      have i2 := H3.out.2.applyOp hop
      unfold applyP at i2
      rw [hp] at i1 i2
      exact ⟨i1, i2⟩
    have HP : Hid (replyP L kd d n td tn v = (r, vv, ys, m, W)) := hp
    have HC : Hid (VwG w b o len cap a2 L (.slice ao L.length cp) (w3.alloc (.cells #[.int .i64 kd, .int .i64 d, .int .i64 n, .int .i64 td, .int .i64 tn, .int .i64 v] 26)) ∧ Ctx (w3.alloc (.cells #[.int .i64 kd, .int .i64 d, .int .i64 n, .int .i64 td, .int .i64 tn, .int .i64 v] 26)) L (.slice ao L.length cp) w3.heap.size 0 kd d n td tn v) := by
      have k1 := H3.out.1.below (below_alloc w3 (.cells #[.int .i64 kd, .int .i64 d, .int .i64 n, .int .i64 td, .int .i64 tn, .int .i64 v] 26))
      exact ⟨k1, ⟨k1.2.2.row.1.mono (Nat.zero_le _), by have := H3.out.2.len; omega⟩, (Blk6.new w3 _ _ _ _ _ _ _).toO, H3.out.2.vals, hbd.2.1, hbd.2.2.1, hbd.2.2.2.1, hbd.2.2.2.2⟩
    have hkd := hbd.1
    have hgl := H3.out.2
    clear hp hbd hop H3
    go_wp2_with fail
    generalize w3.alloc (.cells #[.int .i64 kd, .int .i64 d, .int .i64 n, .int .i64 td, .int .i64 tn, .int .i64 v] 26) = w4 at HC ⊢
    refine (l13Compile_is L _ w3.heap.size 0 kd d n td tn v _ HC.out.2 hkd r vv ys m W HP.out).mono ?_
    rintro e w5 ⟨pr, pw, rfl, ⟨hI, hW, _⟩, q5⟩
    obtain ⟨g1, g2, rfl⟩ := hI.form
    obtain ⟨g3, g4, rfl⟩ := hW.form
    have H5 : Hid (VwG w b o len cap a2 L (.slice ao L.length cp) (w5.alloc (.cells #[.int .i64 0, .int .i64 r, .int .i64 vv, .slice g1 ys.length g2, .slice g3 m g4] 32)) ∧ Row (w5.alloc (.cells #[.int .i64 0, .int .i64 r, .int .i64 vv, .slice g1 ys.length g2, .slice g3 m g4] 32)) 0 3 m (fun p => W.getD p 0) (.slice g3 m g4)) := ⟨(HC.out.1.below q5).below (below_alloc _ _), ((OwnM.rowL hW).1.mono (Nat.zero_le _)).alloc _⟩
    clear hW hI q5 HC HP
    by_cases hr : r = 0
    case neg =>
      have d1 : (r == 0) = false := beq_eq_false_iff_ne.2 hr
      clear hr HI
      go_wp2
      go_roundw
      case rel => exact ⟨k - 1, L, ao, cp, a2, by omega, by go_num, rfl, by have := HA.out; omega, H5.out.1, hgl⟩
      case measure => simp [intOf]; omega
    have d1 : (r == 0) = true := beq_iff_eq.2 hr
    clear hr
    go_wp2_with fail
    refine (l11Apply_any L (fun p => W.getD p 0) m _ _ w.heap.size 0 _ H5.out.1.2.2.row.1 H5.out.2 (by have := hgl.len; omega) (appliedF_zero HI.out.1.1).1 (fun i hi => (appF_zero (HI.out.1.all i hi)).2.1)).mono ?_
    rintro e w6 ⟨bo, bc, rfl, hO, q6⟩
    have H6 : Hid (VwG w b o len cap a2 (applyN L (fun p => W.getD p 0) m) (.slice bo (applyN L (fun p => W.getD p 0) m).length bc) w6 ∧ GoodP (applyN L (fun p => W.getD p 0) m)) := by
      have k1 := H5.out.1.below q6
      exact ⟨⟨k1.1, k1.2.1, hO.mono (H5.out.1.2.1.size)⟩, HI.out.2⟩
    clear hO q6 H5 HI
    go_wp2
    go_roundw
    case rel => exact ⟨k - 1, _, bo, bc, a2, by omega, by go_num, rfl, by have := HA.out; omega, H6⟩
    case measure => simp [intOf]; omega
end Go.Proofs.Ytlkmcnghdfbapaa

namespace Go.Proofs.Ytlkmcnghdfbapaa
open Go.RowKit

theorem intsCg (x : World) (g : Nat) (hg : x.heap.size = g) : Ints (x.alloc (.cells #[.int .i64 0, .int .i64 5, .int .i64 1000, .int .i64 2001, .int .i64 9999] 2)) g (.slice (some ⟨g, 0, none⟩) 5 5) [0, 5, 1000, 2001, 9999] := hg ▸ World.ownsRow_lit x #[.int .i64 0, .int .i64 5, .int .i64 1000, .int .i64 2001, .int .i64 9999] 5 (Nat.le_refl _) (by decide) rfl
theorem accS_two (L : Prs) (k x : Int) (has : Bool) : ∀ i, (accS L k x has i).1.length ≤ 2 * i
  | 0 => by simp [accS]
  | i + 1 => by
    have := accS_two L k x has i
    rw [accS]
    unfold stepS
    split <;> (try split) <;> simp <;> omega
theorem setS_len (L : Prs) (k x : Int) (has : Bool) : (setS L k x has).length ≤ 2 * L.length + 1 := by
  have := accS_two L k x has L.length
  unfold setS
  split
  · omega
  · simp; omega
/-- A view that was drawn. -/
def DrV (w : World) (b : Nat) (o : Option Addr) (len cap : Nat) (a : Int) (n : Nat) (v : Value) (x : World) : Prop := (∃ F, Row x w.heap.size 2 n F v) ∧ Src x b o len cap a ∧ But b w x
set_option maxRecDepth 100000 in
set_option maxHeartbeats 4000000 in
theorem l13BentView_any (w : World) (b : Nat) (o : Option Addr) (len cap : Nat) (a : Int) (h : Src w b o len cap a) (ha : a ≤ 300000) (hl : len ≤ 1048576) :
    Calls Try.prog 11 #[.pointer (some ⟨b, 0, none⟩)] w fun e w' => ∃ (n : Nat) (ao : Option Addr) (cp : Nat) (a1 : Int), e = .returned (.slice ao n cp) ∧ n ≤ 401 ∧ a1 ≤ a + 300 ∧ DrV w b o len cap a1 n (.slice ao n cp) w' := by
  have H : Hid (Src w b o len cap a) := h
  have hbl := h.lt
  clear h
  go_enter Try.func11, Try.ntmps11
  go_wp2_with fail
  refine (l1Next_any _ b o len cap a 20 H.out (by omega) hl).mono ?_
  rintro e w1 ⟨q0, rfl, h0, h1, hS, hT⟩
  have h20 := h1 (by omega)
  obtain ⟨q, rfl⟩ : ∃ q : Nat, q0 = (q : Int) := ⟨q0.toNat, by omega⟩
  have H1 : Hid (Src w1 b o len cap (a + 1) ∧ But b w w1) := ⟨hS, hT⟩
  clear hS hT h1
  go_wp2_with fail
  refine (l13View_any w1 b o len cap (a + 1) q H1.out.1 (by omega) (by omega) hl).mono ?_
  rintro e w2 ⟨L, ao, cp, a2, rfl, hg, ha2, hV⟩
  have H2 : Hid (Src w2 b o len cap a2 ∧ But b w w2 ∧ Own w2 w.heap.size 36 2 L.length (rowL L) (.slice ao L.length cp) ∧ GoodP L) := ⟨hV.1, H1.out.2.trans hV.2.1, hV.2.2.mono H1.out.2.size, hg⟩
  have HA : Hid (a2 ≤ a + 127) := by show a2 ≤ _; omega
  clear hg ha2 hV H1
  go_wp2_with fail
  refine (l1Next_any _ b o len cap a2 12 H2.out.1 (by have := HA.out; omega) hl).mono ?_
  rintro e w3 ⟨s, rfl, s0, s1, hS, hT⟩
  have H3 : Hid (Src w3 b o len cap (a2 + 1) ∧ But b w w3 ∧ Own w3 w.heap.size 36 2 L.length (rowL L) (.slice ao L.length cp) ∧ GoodP L) := ⟨hS, H2.out.2.1.trans hT, H2.out.2.2.1.butD hT hbl, H2.out.2.2.2⟩
  clear hS hT H2 s1
  have hLl : L.length ≤ 200 := H3.out.2.2.2.len
  by_cases e0 : s = 0
  · subst e0
    go_wp2_with fail
    refine (l11Bent_any _ b o len cap (a2 + 1) H3.out.1 (by have := HA.out; omega) hl).mono ?_
    rintro e w4 ⟨n, bo, bc, a4, rfl, hn, ha4, hq⟩
    have H4 : Hid (DrV w b o len cap a4 n (.slice bo n bc) w4) := by
      obtain ⟨G, hG⟩ := hq.row
      exact ⟨⟨G, hG.mono H3.out.2.1.size⟩, hq.src, H3.out.2.1.trans hq.but⟩
    clear hq
    go_wp2
    go_ret
    exact ⟨n, bo, bc, a4, rfl, by omega, by have := HA.out; omega, H4.out⟩
  have d0 : (s == 0) = false := beq_eq_false_iff_ne.2 e0
  by_cases e1 : s = 1
  · subst e1
    go_wp2_with fail
    refine (l1Key_any _ b o len cap (a2 + 1) H3.out.1 (by have := HA.out; omega) hl).mono ?_
    rintro e w4 ⟨ky, rfl, _, hS, hT⟩
    have H4 : Hid (Src w4 b o len cap (a2 + 1 + 5) ∧ But b w w4 ∧ Own w4 w.heap.size 36 2 L.length (rowL L) (.slice ao L.length cp)) := ⟨hS, H3.out.2.1.trans hT, H3.out.2.2.1.butD hT hbl⟩
    clear hS hT H3
    go_wp2_with fail
    refine (l1Pick_any _ b o len cap (a2 + 1 + 5) _ _ [0, 5, 1000, 2001, 9999] (H4.out.1.alloc _) (by have := HA.out; omega) hl (intsCg w4 w4.heap.size rfl) H4.out.1.lt (by simp) (by simp)).mono ?_
    rintro e w5 ⟨pv, rfl, _, hS, hT⟩
    have H5 : Hid (Src w5 b o len cap (a2 + 1 + 5 + 1) ∧ But b w w5 ∧ Own w5 w.heap.size 36 2 L.length (rowL L) (.slice ao L.length cp)) := ⟨hS, (H4.out.2.1.alloc _).trans hT, (H4.out.2.2.alloc _).butD hT hbl⟩
    clear hS hT H4
    go_wp2_with fail
    refine (l11Set_any L _ w.heap.size ky pv true _ H5.out.2.2.row.1 (by omega)).mono ?_
    rintro e w6 ⟨bo, bc, rfl, hO, q6⟩
    obtain ⟨LN, hLN⟩ : ∃ LN, (setS L ky pv true).length = LN := ⟨_, rfl⟩
    have hLN2 : LN ≤ 401 := by rw [← hLN]; have := setS_len L ky pv true; omega
    have H6 : Hid (DrV w b o len cap (a2 + 1 + 5 + 1) LN (.slice bo LN bc) w6) := by
      rw [hLN] at hO
      exact ⟨⟨_, hO.row.1.mono H5.out.2.1.size⟩, H5.out.1.later q6, H5.out.2.1.below q6⟩
    rw [hLN]
    clear hO q6 H5 hLN
    go_wp2
    go_ret
    exact ⟨LN, bo, bc, _, rfl, hLN2, by have := HA.out; omega, H6.out⟩
  have d1 : (s == 1) = false := beq_eq_false_iff_ne.2 e1
  by_cases e2 : s = 2
  · subst e2
    go_wp2_with fail
    refine (l1Key_any _ b o len cap (a2 + 1) H3.out.1 (by have := HA.out; omega) hl).mono ?_
    rintro e w4 ⟨ky, rfl, _, hS, hT⟩
    have H4 : Hid (Src w4 b o len cap (a2 + 1 + 5) ∧ But b w w4 ∧ Own w4 w.heap.size 36 2 L.length (rowL L) (.slice ao L.length cp)) := ⟨hS, H3.out.2.1.trans hT, H3.out.2.2.1.butD hT hbl⟩
    clear hS hT H3
    go_wp2_with fail
    refine (l11Set_any L _ w.heap.size ky 0 false _ H4.out.2.2.row.1 (by omega)).mono ?_
    rintro e w6 ⟨bo, bc, rfl, hO, q6⟩
    obtain ⟨LN, hLN⟩ : ∃ LN, (setS L ky 0 false).length = LN := ⟨_, rfl⟩
    have hLN2 : LN ≤ 401 := by rw [← hLN]; have := setS_len L ky 0 false; omega
    have H6 : Hid (DrV w b o len cap (a2 + 1 + 5) LN (.slice bo LN bc) w6) := by
      rw [hLN] at hO
      exact ⟨⟨_, hO.row.1.mono H4.out.2.1.size⟩, H4.out.1.later q6, H4.out.2.1.below q6⟩
    rw [hLN]
    clear hO q6 H4 hLN
    go_wp2
    go_ret
    exact ⟨LN, bo, bc, _, rfl, hLN2, by have := HA.out; omega, H6.out⟩
  have d2 : (s == 2) = false := beq_eq_false_iff_ne.2 e2
  obtain ⟨LN, hLN⟩ : ∃ LN, L.length = LN := ⟨_, rfl⟩
  have H6 : Hid (DrV w b o len cap (a2 + 1) LN (.slice ao LN cp) w3) := by
    rw [← hLN]
    exact ⟨⟨_, H3.out.2.2.1.row.1⟩, H3.out.1, H3.out.2.1⟩
  have hLN2 : LN ≤ 401 := by omega
  rw [hLN]
  clear H3 hLN hLl
  go_wp2
  go_ret
  exact ⟨LN, ao, cp, _, rfl, hLN2, by have := HA.out; omega, H6.out⟩
end Go.Proofs.Ytlkmcnghdfbapaa

namespace Go.Proofs.Ytlkmcnghdfbapaa
open Go.RowKit

theorem DrB.put0B {w x : World} {b : Nat} {o : Option Addr} {len cap g : Nat} {kd d n td tn v a : Int} (h : DrB w b o len cap g kd d n td tn v a x) {a0 : Int} (h0 : Src w b o len cap a0) (u : Int) :
    DrB w b o len cap g u d n td tn v a (x.setCell ⟨g, 0, none⟩ (.int .i64 u)) := by
  refine ⟨h.dr.set h0 h.lt _ _, ?_, h.lt⟩
  obtain ⟨⟨c0, c1, c2, c3, c4, c5⟩, f0, f1, f2, f3, f4, f5⟩ := h.box
  refine ⟨⟨?_, ?_, ?_, ?_, ?_, ?_⟩, by simpa using f0, by simpa using f1, by simpa using f2, by simpa using f3, by simpa using f4, by simpa using f5⟩
  · exact World.cell?_setCell_same _ _ _ c0
  · exact setCell_otherE (by decide) c1
  · exact setCell_otherE (by decide) c2
  · exact setCell_otherE (by decide) c3
  · exact setCell_otherE (by decide) c4
  · exact setCell_otherE (by decide) c5
theorem DrB.put1B {w x : World} {b : Nat} {o : Option Addr} {len cap g : Nat} {kd d n td tn v a : Int} (h : DrB w b o len cap g kd d n td tn v a x) {a0 : Int} (h0 : Src w b o len cap a0) (u : Int) :
    DrB w b o len cap g kd u n td tn v a (x.setCell ⟨g, 1, none⟩ (.int .i64 u)) := by
  refine ⟨h.dr.set h0 h.lt _ _, ?_, h.lt⟩
  obtain ⟨⟨c0, c1, c2, c3, c4, c5⟩, f0, f1, f2, f3, f4, f5⟩ := h.box
  refine ⟨⟨?_, ?_, ?_, ?_, ?_, ?_⟩, by simpa using f0, by simpa using f1, by simpa using f2, by simpa using f3, by simpa using f4, by simpa using f5⟩
  · exact setCell_otherE (by decide) c0
  · exact World.cell?_setCell_same _ _ _ c1
  · exact setCell_otherE (by decide) c2
  · exact setCell_otherE (by decide) c3
  · exact setCell_otherE (by decide) c4
  · exact setCell_otherE (by decide) c5
theorem DrB.put2B {w x : World} {b : Nat} {o : Option Addr} {len cap g : Nat} {kd d n td tn v a : Int} (h : DrB w b o len cap g kd d n td tn v a x) {a0 : Int} (h0 : Src w b o len cap a0) (u : Int) :
    DrB w b o len cap g kd d u td tn v a (x.setCell ⟨g, 2, none⟩ (.int .i64 u)) := by
  refine ⟨h.dr.set h0 h.lt _ _, ?_, h.lt⟩
  obtain ⟨⟨c0, c1, c2, c3, c4, c5⟩, f0, f1, f2, f3, f4, f5⟩ := h.box
  refine ⟨⟨?_, ?_, ?_, ?_, ?_, ?_⟩, by simpa using f0, by simpa using f1, by simpa using f2, by simpa using f3, by simpa using f4, by simpa using f5⟩
  · exact setCell_otherE (by decide) c0
  · exact setCell_otherE (by decide) c1
  · exact World.cell?_setCell_same _ _ _ c2
  · exact setCell_otherE (by decide) c3
  · exact setCell_otherE (by decide) c4
  · exact setCell_otherE (by decide) c5
theorem intsP0 (x : World) (g : Nat) (hg : x.heap.size = g) : Ints (x.alloc (.cells #[.int .i64 0, .int .i64 9, .int .i64 1, .int .i64 6] 2)) g (.slice (some ⟨g, 0, none⟩) 4 4) [0, 9, 1, 6] := hg ▸ World.ownsRow_lit x #[.int .i64 0, .int .i64 9, .int .i64 1, .int .i64 6] 4 (Nat.le_refl _) (by decide) rfl
theorem intsP1 (x : World) (g : Nat) (hg : x.heap.size = g) : Ints (x.alloc (.cells #[.int .i64 (-1), .int .i64 10, .int .i64 9] 2)) g (.slice (some ⟨g, 0, none⟩) 3 3) [-1, 10, 9] := hg ▸ World.ownsRow_lit x #[.int .i64 (-1), .int .i64 10, .int .i64 9] 3 (Nat.le_refl _) (by decide) rfl
theorem intsP2 (x : World) (g : Nat) (hg : x.heap.size = g) : Ints (x.alloc (.cells #[.int .i64 (-1), .int .i64 6, .int .i64 5] 2)) g (.slice (some ⟨g, 0, none⟩) 3 3) [-1, 6, 5] := hg ▸ World.ownsRow_lit x #[.int .i64 (-1), .int .i64 6, .int .i64 5] 3 (Nat.le_refl _) (by decide) rfl
theorem intsP3 (x : World) (g : Nat) (hg : x.heap.size = g) : Ints (x.alloc (.cells #[.int .i64 10, .int .i64 3] 2)) g (.slice (some ⟨g, 0, none⟩) 2 2) [10, 3] := hg ▸ World.ownsRow_lit x #[.int .i64 10, .int .i64 3] 2 (Nat.le_refl _) (by decide) rfl
theorem intsP4 (x : World) (g : Nat) (hg : x.heap.size = g) : Ints (x.alloc (.cells #[.int .i64 (-1), .int .i64 10000, .int .i64 5] 2)) g (.slice (some ⟨g, 0, none⟩) 3 3) [-1, 10000, 5] := hg ▸ World.ownsRow_lit x #[.int .i64 (-1), .int .i64 10000, .int .i64 5] 3 (Nat.le_refl _) (by decide) rfl
set_option maxRecDepth 100000 in
set_option maxHeartbeats 4000000 in
theorem l13Bent_any (w : World) (b : Nat) (o : Option Addr) (len cap : Nat) (a : Int) (h : Src w b o len cap a) (ha : a ≤ 800000) (hl : len ≤ 1048576) :
    Calls Try.prog 14 #[.pointer (some ⟨b, 0, none⟩)] w fun e w' => ∃ kd d n td tn v a1 : Int, e = .returned (.agg #[.int .i64 kd, .int .i64 d, .int .i64 n, .int .i64 td, .int .i64 tn, .int .i64 v]) ∧ a1 ≤ a + 8 ∧ Src w' b o len cap a1 ∧ But b w w' := by
  have H : Hid (Src w b o len cap a) := h
  have hbl := h.lt
  have H0 : Hid (DrO w b o len cap a (w.alloc zeroO)) := ⟨h.alloc _, (But.refl _ _).alloc _, Blk6.new w _ _ _ _ _ _ _⟩
  clear h
  go_enter Try.func14, Try.ntmps14
  go_wp2_with fail
  refine (l13Draw_any _ b o len cap a H0.out.src (by omega) hl).mono ?_
  rintro e w1 ⟨kd, d, n, td, tn, v, a1, rfl, _, ha1, hS, hT⟩
  have HW : Hid (DrO w b o len cap a1 w1) := H0.out.step hbl hS hT
  have H1 : Hid (DrB w b o len cap w1.heap.size kd d n td tn v a1 (w1.alloc (.cells #[.int .i64 kd, .int .i64 d, .int .i64 n, .int .i64 td, .int .i64 tn, .int .i64 v] 26))) := ⟨HW.out.alloc _, Blk6.new w1 _ _ _ _ _ _ _, HW.out.res.lt⟩
  clear hS hT H0
  go_wp2_with fail
  refine (l1Next_any _ b o len cap a1 12 H1.out.dr.src (by omega) hl).mono ?_
  rintro e w2 ⟨s, rfl, s0, _, hS, hT⟩
  have H2 : Hid (DrB w b o len cap w1.heap.size kd d n td tn v (a1 + 1) w2) := H1.out.step hbl hS hT
  clear hS hT H1 HW
  by_cases e0 : s = 0
  · subst e0
    go_wp2_with fail
    refine (l1Pick_any _ b o len cap (a1 + 1) _ _ [0, 9, 1, 6] (H2.out.dr.src.alloc _) (by omega) hl (intsP0 w2 w2.heap.size rfl) H2.out.dr.src.lt (by simp) (by simp)).mono ?_
    rintro e w3 ⟨u, rfl, _, hS, hT⟩
    have H4 : Hid (DrB w b o len cap w1.heap.size kd d n td tn v (a1 + 1 + 1) w3) := (H2.out.alloc _).step hbl hS hT
    clear hS hT H2
    obtain ⟨⟨z0, z1, z2, z3, z4, z5⟩, f0, f1, f2, f3, f4, f5⟩ := H4.out.box
    have H5 : Hid (DrB w b o len cap w1.heap.size u d n td tn v (a1 + 1 + 1) (w3.setCell ⟨w1.heap.size, 0, none⟩ (.int .i64 u))) := H4.out.put0B H.out u
    have KL := hidPln (H5.out.dr.res.putAll (.int .i64 u) (.int .i64 d) (.int .i64 n) (.int .i64 td) (.int .i64 tn) (.int .i64 v))
    obtain ⟨⟨r0, r1, r2, r3, r4, r5⟩, g0, g1, g2, g3, g4, g5⟩ := H4.out.dr.res
    have hgl := H4.out.lt
    clear H4
    go_wp2
    obtain ⟨⟨k0, k1, k2, k3, k4, k5⟩, _⟩ := KL.out
    refine bodyPost_ret (v := .agg #[.int .i64 u, .int .i64 d, .int .i64 n, .int .i64 td, .int .i64 tn, .int .i64 v]) (by simp [results, Try.results14, go_sem, k0, k1, k2, k3, k4, k5]) rfl ?_
    exact ⟨_, _, _, _, _, _, _, rfl, by omega, H5.out.dr.fin H.out _ _ _ _ _ _⟩
  have d0 : (s == 0) = false := beq_eq_false_iff_ne.2 e0
  by_cases e1 : s = 1
  · subst e1
    go_wp2_with fail
    refine (l1Pick_any _ b o len cap (a1 + 1) _ _ [-1, 10, 9] (H2.out.dr.src.alloc _) (by omega) hl (intsP1 w2 w2.heap.size rfl) H2.out.dr.src.lt (by simp) (by simp)).mono ?_
    rintro e w3 ⟨u, rfl, _, hS, hT⟩
    have H4 : Hid (DrB w b o len cap w1.heap.size kd d n td tn v (a1 + 1 + 1) w3) := (H2.out.alloc _).step hbl hS hT
    clear hS hT H2
    obtain ⟨⟨z0, z1, z2, z3, z4, z5⟩, f0, f1, f2, f3, f4, f5⟩ := H4.out.box
    have H5 : Hid (DrB w b o len cap w1.heap.size kd u n td tn v (a1 + 1 + 1) (w3.setCell ⟨w1.heap.size, 1, none⟩ (.int .i64 u))) := H4.out.put1B H.out u
    have KL := hidPln (H5.out.dr.res.putAll (.int .i64 kd) (.int .i64 u) (.int .i64 n) (.int .i64 td) (.int .i64 tn) (.int .i64 v))
    obtain ⟨⟨r0, r1, r2, r3, r4, r5⟩, g0, g1, g2, g3, g4, g5⟩ := H4.out.dr.res
    have hgl := H4.out.lt
    clear H4
    go_wp2
    obtain ⟨⟨k0, k1, k2, k3, k4, k5⟩, _⟩ := KL.out
    refine bodyPost_ret (v := .agg #[.int .i64 kd, .int .i64 u, .int .i64 n, .int .i64 td, .int .i64 tn, .int .i64 v]) (by simp [results, Try.results14, go_sem, k0, k1, k2, k3, k4, k5]) rfl ?_
    exact ⟨_, _, _, _, _, _, _, rfl, by omega, H5.out.dr.fin H.out _ _ _ _ _ _⟩
  have d1 : (s == 1) = false := beq_eq_false_iff_ne.2 e1
  by_cases e2 : s = 2
  · subst e2
    go_wp2_with fail
    refine (l1Pick_any _ b o len cap (a1 + 1) _ _ [-1, 6, 5] (H2.out.dr.src.alloc _) (by omega) hl (intsP2 w2 w2.heap.size rfl) H2.out.dr.src.lt (by simp) (by simp)).mono ?_
    rintro e w3 ⟨u, rfl, _, hS, hT⟩
    have H4 : Hid (DrB w b o len cap w1.heap.size kd d n td tn v (a1 + 1 + 1) w3) := (H2.out.alloc _).step hbl hS hT
    clear hS hT H2
    obtain ⟨⟨z0, z1, z2, z3, z4, z5⟩, f0, f1, f2, f3, f4, f5⟩ := H4.out.box
    have H5 : Hid (DrB w b o len cap w1.heap.size kd d u td tn v (a1 + 1 + 1) (w3.setCell ⟨w1.heap.size, 2, none⟩ (.int .i64 u))) := H4.out.put2B H.out u
    have KL := hidPln (H5.out.dr.res.putAll (.int .i64 kd) (.int .i64 d) (.int .i64 u) (.int .i64 td) (.int .i64 tn) (.int .i64 v))
    obtain ⟨⟨r0, r1, r2, r3, r4, r5⟩, g0, g1, g2, g3, g4, g5⟩ := H4.out.dr.res
    have hgl := H4.out.lt
    clear H4
    go_wp2
    obtain ⟨⟨k0, k1, k2, k3, k4, k5⟩, _⟩ := KL.out
    refine bodyPost_ret (v := .agg #[.int .i64 kd, .int .i64 d, .int .i64 u, .int .i64 td, .int .i64 tn, .int .i64 v]) (by simp [results, Try.results14, go_sem, k0, k1, k2, k3, k4, k5]) rfl ?_
    exact ⟨_, _, _, _, _, _, _, rfl, by omega, H5.out.dr.fin H.out _ _ _ _ _ _⟩
  have d2 : (s == 2) = false := beq_eq_false_iff_ne.2 e2
  by_cases e3 : s = 3
  · subst e3
    go_wp2_with fail
    refine (l1Pick_any _ b o len cap (a1 + 1) _ _ [10, 3] (H2.out.dr.src.alloc _) (by omega) hl (intsP3 w2 w2.heap.size rfl) H2.out.dr.src.lt (by simp) (by simp)).mono ?_
    rintro e w3 ⟨u, rfl, _, hS, hT⟩
    have H4 : Hid (DrB w b o len cap w1.heap.size kd d n td tn v (a1 + 1 + 1) w3) := (H2.out.alloc _).step hbl hS hT
    clear hS hT H2
    obtain ⟨⟨z0, z1, z2, z3, z4, z5⟩, f0, f1, f2, f3, f4, f5⟩ := H4.out.box
    have H5 : Hid (DrB w b o len cap w1.heap.size kd d n u tn v (a1 + 1 + 1) (w3.setCell ⟨w1.heap.size, 3, none⟩ (.int .i64 u))) := H4.out.put34 H.out u 3 (Or.inl rfl)
    have KL := hidPln (H5.out.dr.res.putAll (.int .i64 kd) (.int .i64 d) (.int .i64 n) (.int .i64 u) (.int .i64 tn) (.int .i64 v))
    obtain ⟨⟨r0, r1, r2, r3, r4, r5⟩, g0, g1, g2, g3, g4, g5⟩ := H4.out.dr.res
    have hgl := H4.out.lt
    clear H4
    go_wp2
    obtain ⟨⟨k0, k1, k2, k3, k4, k5⟩, _⟩ := KL.out
    refine bodyPost_ret (v := .agg #[.int .i64 kd, .int .i64 d, .int .i64 n, .int .i64 u, .int .i64 tn, .int .i64 v]) (by simp [results, Try.results14, go_sem, k0, k1, k2, k3, k4, k5]) rfl ?_
    exact ⟨_, _, _, _, _, _, _, rfl, by omega, H5.out.dr.fin H.out _ _ _ _ _ _⟩
  have d3 : (s == 3) = false := beq_eq_false_iff_ne.2 e3
  by_cases e4 : s = 4
  · subst e4
    go_wp2_with fail
    refine (l1Pick_any _ b o len cap (a1 + 1) _ _ [-1, 10000, 5] (H2.out.dr.src.alloc _) (by omega) hl (intsP4 w2 w2.heap.size rfl) H2.out.dr.src.lt (by simp) (by simp)).mono ?_
    rintro e w3 ⟨u, rfl, _, hS, hT⟩
    have H4 : Hid (DrB w b o len cap w1.heap.size kd d n td tn v (a1 + 1 + 1) w3) := (H2.out.alloc _).step hbl hS hT
    clear hS hT H2
    obtain ⟨⟨z0, z1, z2, z3, z4, z5⟩, f0, f1, f2, f3, f4, f5⟩ := H4.out.box
    have H5 : Hid (DrB w b o len cap w1.heap.size kd d n td tn u (a1 + 1 + 1) (w3.setCell ⟨w1.heap.size, 5, none⟩ (.int .i64 u))) := H4.out.put34 H.out u 5 (Or.inr (Or.inr rfl))
    have KL := hidPln (H5.out.dr.res.putAll (.int .i64 kd) (.int .i64 d) (.int .i64 n) (.int .i64 td) (.int .i64 tn) (.int .i64 u))
    obtain ⟨⟨r0, r1, r2, r3, r4, r5⟩, g0, g1, g2, g3, g4, g5⟩ := H4.out.dr.res
    have hgl := H4.out.lt
    clear H4
    go_wp2
    obtain ⟨⟨k0, k1, k2, k3, k4, k5⟩, _⟩ := KL.out
    refine bodyPost_ret (v := .agg #[.int .i64 kd, .int .i64 d, .int .i64 n, .int .i64 td, .int .i64 tn, .int .i64 u]) (by simp [results, Try.results14, go_sem, k0, k1, k2, k3, k4, k5]) rfl ?_
    exact ⟨_, _, _, _, _, _, _, rfl, by omega, H5.out.dr.fin H.out _ _ _ _ _ _⟩
  have d4 : (s == 4) = false := beq_eq_false_iff_ne.2 e4
  obtain ⟨⟨z0, z1, z2, z3, z4, z5⟩, f0, f1, f2, f3, f4, f5⟩ := H2.out.box
  have KL := hidPln (H2.out.dr.res.putAll (.int .i64 kd) (.int .i64 d) (.int .i64 n) (.int .i64 td) (.int .i64 tn) (.int .i64 v))
  obtain ⟨⟨r0, r1, r2, r3, r4, r5⟩, g0, g1, g2, g3, g4, g5⟩ := H2.out.dr.res
  have hgl := H2.out.lt
  go_wp2
  obtain ⟨⟨k0, k1, k2, k3, k4, k5⟩, _⟩ := KL.out
  refine bodyPost_ret (v := .agg #[.int .i64 kd, .int .i64 d, .int .i64 n, .int .i64 td, .int .i64 tn, .int .i64 v]) (by simp [results, Try.results14, go_sem, k0, k1, k2, k3, k4, k5]) rfl ?_
  exact ⟨_, _, _, _, _, _, _, rfl, by omega, H2.out.dr.fin H.out _ _ _ _ _ _⟩
end Go.Proofs.Ytlkmcnghdfbapaa

