/-
  Own text. 'for place, value := range m' over a map from two whole numbers to one: the laws at the operations, in plain words.
-/
import Derived.Test.YtnkdphdpecgmiaaGreatDoorColsR
import Derived.Maps.RangeWalk
namespace Go.Proofs.YtnkdphdpecgmiaaGreatDoor
open Go.RowKit Go.Maps

theorem kp_same {p q x y : Int} (hp : Wf p) (hq : Wf q) (hx : Wf x) (hy : Wf y) : (kp p q).sameKey (kp x y) = decide (p = x ∧ q = y) := by
  by_cases e : p = x ∧ q = y
  · obtain ⟨rfl, rfl⟩ := e
    simp [kp, Lit.sameKey]
  · rw [decide_eq_false e]
    have : kp p q ≠ kp x y := fun h => e (kp_inj hp hq hx hy h)
    unfold kp at this ⊢
    unfold Lit.sameKey
    rw [beq_eq_false_iff_ne]
    exact fun h => this (by rw [h])
theorem lits_int {m : Nat} {c : Value} {ls : List Lit} (h : Tryz.prog.keyLits (m + 1) 2 [c] = some ls) : ∃ x, c = .int .i64 x ∧ ls = [.int .i64 x] ∧ Wf x := by
  unfold Program.keyLits at h
  simp only [Tryz.underlying2] at h
  cases c <;> simp at h
  obtain ⟨⟨rfl, hw⟩, rfl⟩ := h
  exact ⟨_, rfl, rfl, hw⟩
theorem keyOf_place_inv {key : Value} {kl : Lit} (h : keyOf Tryz.prog 120 key = some kl) : ∃ x y, key = .agg #[.int .i64 x, .int .i64 y] ∧ kl = kp x y ∧ Wf x ∧ Wf y := by
  have h2 : Tryz.prog.cellsOf 120 = 2 := by kernel_rfl
  have h3 : Tryz.prog.cellsOf 2 = 1 := by kernel_rfl
  obtain ⟨m, h4⟩ : ∃ m, Tryz.prog.types.size = m + 1 := ⟨Tryz.prog.types.size - 1, by kernel_rfl⟩
  have hf := h
  unfold keyOf at hf
  simp only [Tryz.underlying120] at hf
  by_cases hc : (Tryz.prog.keyType 120 && key.formed Tryz.prog 120) = true
  case neg => rw [if_neg hc] at hf; cases hf
  rw [if_pos hc, h4] at hf
  have hform := (Bool.and_eq_true_iff.1 hc).2
  cases key with
  | agg cs =>
    simp [Value.formed, Tryz.underlying120, h2] at hform
    obtain ⟨c0, c1, rfl⟩ : ∃ c0 c1, cs = #[c0, c1] := by
      exact ⟨cs[0]'(by omega), cs[1]'(by omega), Array.ext (by simpa using hform) (fun i h0 h1 => by
        have : i = 0 ∨ i = 1 := by simp at h1; omega
        rcases this with rfl | rfl <;> rfl)⟩
    unfold Program.keyLits at hf
    simp only [Tryz.underlying120, Value.cells] at hf
    rw [if_pos (by rw [h2]; exact ⟨rfl, by kernel_rfl⟩)] at hf
    simp [h3, List.mapM_cons, Option.bind_eq_some_iff] at hf
    obtain ⟨l0, g0, _, ⟨l1, g1, rfl⟩, rfl⟩ := hf
    obtain ⟨x, rfl, rfl, hx⟩ := lits_int g0
    obtain ⟨y, rfl, rfl, hy⟩ := lits_int g1
    exact ⟨x, y, rfl, by simp [kp], hx, hy⟩
  | _ => simp [Value.formed, Tryz.underlying120] at hform
/-- Block b is a map that has m, block r an iterator over it; 'left' tells which keys are still to come, cnt how many at most. -/
def PR (w : World) (b r n : Nat) (m : Int → Int → Option Int) (left : Int → Int → Bool) (cnt : Nat) : Prop :=
  ∃ (D : DataW Unit) (L : Lit → Bool), w.ranges Tryz.prog 120 (plainElem Tryz.prog 2) b r n D L cnt ∧ (∀ x y, Wf x → Wf y → Maps.has D (kp x y) = (m x y).isSome ∧ D.atKey (kp x y) (.lit (.int .i64 0)) = .lit (.int .i64 ((m x y).getD 0))) ∧ ∀ x y, Wf x → Wf y → L (kp x y) = left x y
theorem PR.pm {w : World} {b r n cnt : Nat} {m : Int → Int → Option Int} {left : Int → Int → Bool} (h : PR w b r n m left cnt) : PM w b n m := by
  obtain ⟨D, L, h1, h2, _⟩ := h
  exact ⟨D, h1.owns, h2⟩
theorem PR.ne {w : World} {b r n cnt : Nat} {m : Int → Int → Option Int} {left : Int → Int → Bool} (h : PR w b r n m left cnt) : r ≠ b := by
  obtain ⟨D, L, h1, _⟩ := h
  exact h1.ne
theorem PR.lt {w : World} {b r n cnt : Nat} {m : Int → Int → Option Int} {left : Int → Int → Bool} (h : PR w b r n m left cnt) : r < w.heap.size := by
  obtain ⟨D, L, h1, _⟩ := h
  exact h1.lt
theorem PR.left_eq {w : World} {b r n cnt : Nat} {m : Int → Int → Option Int} {left : Int → Int → Bool} (h : PR w b r n m left cnt) : w.rangeLeft b r = cnt := by
  obtain ⟨D, L, h1, _⟩ := h
  exact h1.left_eq
theorem PR.kept {w w' : World} {b r n cnt : Nat} {m : Int → Int → Option Int} {left : Int → Int → Bool} {row : Option Nat} (h : PR w b r n m left cnt) (hg : w.grownBy w' row) (hb : some b ≠ row) (hr : some r ≠ row) : PR w' b r n m left cnt := by
  obtain ⟨D, L, h1, r1⟩ := h
  exact ⟨D, L, h1.kept hg hb hr, r1⟩
theorem PR.later {w w' : World} {b r n cnt : Nat} {m : Int → Int → Option Int} {left : Int → Int → Bool} (h : PR w b r n m left cnt) (hb : Below w.heap.size w w') : PR w' b r n m left cnt :=
  h.kept (row := none) ⟨hb.os, hb.tape, hb.output, hb.size, fun i hi _ => hb.block i hi⟩ (by simp) (by simp)
theorem PR.congr {w : World} {b r n cnt : Nat} {m : Int → Int → Option Int} {left left' : Int → Int → Bool} (h : PR w b r n m left cnt) (e : ∀ x y, left x y = left' x y) : PR w b r n m left' cnt := by
  obtain ⟨D, L, h1, r1, r2⟩ := h
  exact ⟨D, L, h1, r1, fun x y hx hy => by rw [r2 x y hx hy, e]⟩
/-- 'left' without one key. -/
def strike (left : Int → Int → Bool) (x y : Int) : Int → Int → Bool := fun p q => left p q && !decide (p = x ∧ q = y)
def delM (m : Int → Int → Option Int) (x y : Int) : Int → Int → Option Int := fun p q => if p = x ∧ q = y then none else m p q
theorem wpList_prange (w : World) {ops : Array Oper} {rest : List Oper} {o : Oper} {a : Act} {Q : Exit → Act → World → Prop} (hg : o.guard = none) (mo : Operand) (hop : o.op = Op.range 100 mo)
    (b n : Nat) (m : Int → Int → Option Int) (hm : a.eval mo = .map (some b)) (h : PM w b n m)
    (hK : ∀ w' cnt, cnt ≤ n → PR w' b w.heap.size n m (fun x y => (m x y).isSome) cnt → Below w.heap.size w w' → w'.heap.size = w.heap.size + 1 → wpList Tryz.prog ops Q rest (a.put o.dst (.pointer (some ⟨w.heap.size, 0, none⟩))) w') :
    wpList Tryz.prog ops Q (o :: rest) a w := by
  obtain ⟨D, h1, h2⟩ := h
  refine wpList_range_own w hg mo 100 hop _ _ placeKeyed Tryz.underlying100 _ b n D hm h1 ?_
  intro w' hr hgw hs
  refine hK w' (Maps.size D) h1.size_le ⟨D, Maps.has D, hr, h2, fun x y hx hy => (h2 x y hx hy).1⟩ ?_ hs
  exact ⟨hgw.os, hgw.tape, hgw.output, hgw.size, fun i hi => hgw.block i hi (by simp)⟩
theorem wpList_pnext (w : World) {ops : Array Oper} {rest : List Oper} {o : Oper} {a : Act} {Q : Exit → Act → World → Prop} (hg : o.guard = none) (it : Operand) (hop : o.op = Op.next it false)
    (b r n : Nat) (m : Int → Int → Option Int) (left : Int → Int → Bool) (cnt : Nat) (hit : a.eval it = .pointer (some ⟨r, 0, none⟩)) (h : PR w b r n m left cnt) (hle : ∀ x y, Wf x → Wf y → left x y = true → (m x y).isSome = true)
    (hDone : (∀ x y, Wf x → Wf y → left x y = false) → wpList Tryz.prog ops Q rest (a.put o.dst (.tuple #[.bool false])) w)
    (hMore : ∀ (x y c : Int) (w' : World) (cnt' : Nat), Wf x → Wf y → Wf c → left x y = true → m x y = some c → PR w' b r n m (strike left x y) cnt' → cnt' < cnt → w.grownBy w' (some r) → w'.heap.size = w.heap.size →
      (Instr.entry (.pointer (some ⟨r, 0, none⟩))).run Tryz.prog w' = .ok (.tuple #[.agg #[.int .i64 x, .int .i64 y], .int .i64 c]) w' → wpList Tryz.prog ops Q rest (a.put o.dst (.tuple #[.bool true, .agg #[.int .i64 x, .int .i64 y], .int .i64 c])) w') :
    wpList Tryz.prog ops Q (o :: rest) a w := by
  obtain ⟨D, L, h1, h2, h3⟩ := h
  refine wpList_next_ranges (α := Int × Int) (β := Int) w hg it hop _ placeKeyed _ (fun p => .agg #[.int .i64 p.1, .int .i64 p.2]) (Value.int .i64) (fun key kl hk => by obtain ⟨x, y, e, _⟩ := keyOf_place_inv hk; exact ⟨(x, y), e⟩) (fun v y hv => by obtain ⟨c, e, _⟩ := plainElem_int_inv Tryz.underlying2 hv; exact ⟨c, e⟩) b r n D L cnt hit h1 ?_ ?_
  · intro _ hl
    exact hDone fun x y hx hy => by rw [← h3 x y hx hy]; exact hl _
  · rintro ⟨x, y⟩ c kl z w' cnt' hkey hl hv hat hr hlt hgw hs hen
    obtain ⟨x', y', e, rfl, hx, hy⟩ := keyOf_place_inv hkey
    simp at e
    obtain ⟨rfl, rfl⟩ := e
    obtain ⟨c', e, rfl, hc⟩ := plainElem_int_inv Tryz.underlying2 hv
    simp at e
    subst e
    have hl' : left x y = true := by rw [← h3 x y hx hy]; exact hl
    have hsome := hle x y hx hy hl'
    have hat' := (h2 x y hx hy).2
    rw [hat] at hat'
    simp at hat'
    have hm : m x y = some c := by
      obtain ⟨u, hu⟩ := Option.isSome_iff_exists.1 hsome
      rw [hu] at hat' ⊢
      simp at hat'
      rw [hat']
    refine hMore x y c w' cnt' hx hy hc hl' hm ⟨D, _, hr, h2, fun p q hp hq => ?_⟩ hlt hgw hs hen
    rw [h3 p q hp hq, kp_same hp hq hx hy]
    rfl
theorem wpList_pdelete (w : World) {ops : Array Oper} {rest : List Oper} {o : Oper} {a : Act} {Q : Exit → Act → World → Prop} (hg : o.guard = none) (mo xo : Operand) (hop : o.op = Op.call { callee := Callee.builtin Builtin.delete, args := #[mo, xo], argTypes := #[100, 120] })
    (b r n : Nat) (m : Int → Int → Option Int) (left : Int → Int → Bool) (cnt : Nat) (hm : a.eval mo = .map (some b)) (h : PR w b r n m left cnt) (x y : Int) (hx : a.eval xo = .agg #[.int .i64 x, .int .i64 y]) (hwx : Wf x) (hwy : Wf y)
    (hK : ∀ w' cnt', PR w' b r n (delM m x y) (strike left x y) cnt' → cnt' ≤ cnt → w.grownBy w' (some b) → wpList Tryz.prog ops Q rest (a.put o.dst (.tuple #[])) w') :
    wpList Tryz.prog ops Q (o :: rest) a w := by
  obtain ⟨D, L, h1, h2, h3⟩ := h
  refine wpList_delete_ranges w hg mo xo 100 120 hop _ placeKeyed Tryz.underlying100 _ b r n D L cnt hm h1 _ _ hx (keyOf_place hwx hwy) ?_
  intro w' cnt' hr hle ht
  refine hK w' cnt' ⟨_, _, hr, fun p q hp hq => ?_, fun p q hp hq => ?_⟩ hle ht.grown
  · unfold delM
    by_cases e : p = x ∧ q = y
    · obtain ⟨rfl, rfl⟩ := e
      rw [if_pos ⟨rfl, rfl⟩]
      exact ⟨has_del_same, atKey_del_same _⟩
    · rw [if_neg e, has_del_other (fun q => e (kp_inj hp hq hwx hwy q)), atKey_del_other (fun q => e (kp_inj hp hq hwx hwy q))]
      exact h2 p q hp hq
  · rw [h3 p q hp hq, kp_same hp hq hwx hwy]
    rfl
theorem PM.congrW {w : World} {b n : Nat} {m m' : Int → Int → Option Int} (h : PM w b n m) (e : ∀ x y, Wf x → Wf y → m x y = m' x y) : PM w b n m' := by
  obtain ⟨D, h1, r⟩ := h
  exact ⟨D, h1, fun x y hx hy => by rw [← e x y hx hy]; exact r x y hx hy⟩
theorem PR.congrM {w : World} {b r n cnt : Nat} {m m' : Int → Int → Option Int} {left left' : Int → Int → Bool} (h : PR w b r n m left cnt) (e : ∀ x y, m x y = m' x y) (e' : ∀ x y, left x y = left' x y) : PR w b r n m' left' cnt := by
  obtain ⟨D, L, h1, r1, r2⟩ := h
  exact ⟨D, L, h1, fun x y hx hy => by rw [← e]; exact r1 x y hx hy, fun x y hx hy => by rw [r2 x y hx hy, e']⟩
/-- 'delete(m, k)' at a step of a region that draws its order. -/
theorem step_pdelete {ops : Array Oper} {o : Oper} {a : Act} {K : Act → World → Prop} {Q : Exit → Act → World → Prop} {E : Prop} (w : World) (hg : o.guard = none) (mo xo : Operand) (hop : o.op = Op.call { callee := Callee.builtin Builtin.delete, args := #[mo, xo], argTypes := #[100, 120] })
    (b r n : Nat) (m : Int → Int → Option Int) (left : Int → Int → Bool) (cnt : Nat) (hm : a.eval mo = .map (some b)) (h : PR w b r n m left cnt) (x y : Int) (hx : a.eval xo = .agg #[.int .i64 x, .int .i64 y]) (hwx : Wf x) (hwy : Wf y)
    (hK : ∀ w' cnt', PR w' b r n (delM m x y) (strike left x y) cnt' → cnt' ≤ cnt → w.grownBy w' (some b) → K (a.put o.dst (.tuple #[])) w') :
    if Region.wanted o (yielded ops a.tmps) = true then Oper.wp Tryz.prog o a w K Q else E := by
  have hw : Region.wanted o (yielded ops a.tmps) = true := by simp [Region.wanted, hg]
  rw [if_pos hw]
  obtain ⟨D, L, h1, h2, h3⟩ := h
  obtain ⟨w', cnt', hrun, r1, r2, r3⟩ := h1.drop placeKeyed Tryz.underlying100 (keyOf_place hwx hwy) o.type
  unfold Oper.wp
  simp [execOp, hop, resolve, invoke, builtin, hm, hx, hrun, Result.andThen]
  refine hK w' cnt' ⟨_, _, r1, fun p q hp hq => ?_, fun p q hp hq => ?_⟩ r2 r3.grown
  · unfold delM
    by_cases e : p = x ∧ q = y
    · obtain ⟨rfl, rfl⟩ := e
      rw [if_pos ⟨rfl, rfl⟩]
      exact ⟨has_del_same, atKey_del_same _⟩
    · rw [if_neg e, has_del_other (fun q => e (kp_inj hp hq hwx hwy q)), atKey_del_other (fun q => e (kp_inj hp hq hwx hwy q))]
      exact h2 p q hp hq
  · rw [h3 p q hp hq, kp_same hp hq hwx hwy]
    rfl
end Go.Proofs.YtnkdphdpecgmiaaGreatDoor
