/-
  Own text, merged of RangA, SortD.
-/
import Derived.Test.YtpfmbfmlpoibeaaGreatColsR
import Derived.Maps.RangeWalk
import Derived.Test.YtpfmbfmlpoibeaaGreatPartD
namespace Go.Proofs.YtpfmbfmlpoibeaaGreat
section
open Go.RowKit Go.Maps
-- Own text. 'for place, value := range m' over a map from two whole numbers to one: the laws at the operations, in plain words.
theorem kp_same {p q x y : Int} (hp : Wf p) (hq : Wf q) (hx : Wf x) (hy : Wf y) : (kp p q).sameKey (kp x y) = decide (p = x ∧ q = y) := by
  by_cases e : p = x ∧ q = y
  · obtain ⟨rfl, rfl⟩ := e
    simp [kp, Lit.sameKey]
  · rw [decide_eq_false e]
    have : kp p q ≠ kp x y := fun h => e (kp_inj hp hq hx hy h)
    unfold kp at this ⊢
    unfold Lit.sameKey
    rw [beq_eq_false_iff_ne]
    exact fun h => this (by rw [h])
theorem lits_int {m : Nat} {c : Value} {ls : List Lit} (h : Tryz.prog.keyLits (m + 1) 2 [c] = some ls) : ∃ x, c = .int .i64 x ∧ ls = [.int .i64 x] ∧ Wf x := by
  unfold Program.keyLits at h
  simp only [Tryz.underlying2] at h
  cases c <;> simp at h
  obtain ⟨⟨rfl, hw⟩, rfl⟩ := h
  exact ⟨_, rfl, rfl, hw⟩
theorem keyOf_place_inv {key : Value} {kl : Lit} (h : keyOf Tryz.prog 172 key = some kl) : ∃ x y, key = .agg #[.int .i64 x, .int .i64 y] ∧ kl = kp x y ∧ Wf x ∧ Wf y := by
  have h2 : Tryz.prog.cellsOf 172 = 2 := by kernel_rfl
  have h3 : Tryz.prog.cellsOf 2 = 1 := by kernel_rfl
  obtain ⟨m, h4⟩ : ∃ m, Tryz.prog.types.size = m + 1 := ⟨Tryz.prog.types.size - 1, by kernel_rfl⟩
  have hf := h
  unfold keyOf at hf
  simp only [Tryz.underlying172] at hf
  by_cases hc : (Tryz.prog.keyType 172 && key.formed Tryz.prog 172) = true
  case neg => rw [if_neg hc] at hf; cases hf
  rw [if_pos hc, h4] at hf
  have hform := (Bool.and_eq_true_iff.1 hc).2
  cases key with
  | agg cs =>
    simp [Value.formed, Tryz.underlying172, h2] at hform
    obtain ⟨c0, c1, rfl⟩ : ∃ c0 c1, cs = #[c0, c1] := by
      exact ⟨cs[0]'(by omega), cs[1]'(by omega), Array.ext (by simpa using hform) (fun i h0 h1 => by
        have : i = 0 ∨ i = 1 := by simp at h1; omega
        rcases this with rfl | rfl <;> rfl)⟩
    unfold Program.keyLits at hf
    simp only [Tryz.underlying172, Value.cells] at hf
    rw [if_pos (by rw [h2]; exact ⟨rfl, by kernel_rfl⟩)] at hf
    simp [h3, List.mapM_cons, Option.bind_eq_some_iff] at hf
    obtain ⟨l0, g0, _, ⟨l1, g1, rfl⟩, rfl⟩ := hf
    obtain ⟨x, rfl, rfl, hx⟩ := lits_int g0
    obtain ⟨y, rfl, rfl, hy⟩ := lits_int g1
    exact ⟨x, y, rfl, by simp [kp], hx, hy⟩
  | _ => simp [Value.formed, Tryz.underlying172] at hform
/-- Block b is a map that has m, block r an iterator over it; 'left' tells which keys are still to come, cnt how many at most. -/
def PR (w : World) (b r n : Nat) (m : Int → Int → Option Int) (left : Int → Int → Bool) (cnt : Nat) : Prop :=
  ∃ (D : DataW Unit) (L : Lit → Bool), w.ranges Tryz.prog 172 (plainElem Tryz.prog 2) b r n D L cnt ∧ (∀ x y, Wf x → Wf y → Maps.has D (kp x y) = (m x y).isSome ∧ D.atKey (kp x y) (.lit (.int .i64 0)) = .lit (.int .i64 ((m x y).getD 0))) ∧ ∀ x y, Wf x → Wf y → L (kp x y) = left x y
theorem PR.pm {w : World} {b r n cnt : Nat} {m : Int → Int → Option Int} {left : Int → Int → Bool} (h : PR w b r n m left cnt) : PM w b n m := by
  obtain ⟨D, L, h1, h2, _⟩ := h
  exact ⟨D, h1.owns, h2⟩
theorem PR.ne {w : World} {b r n cnt : Nat} {m : Int → Int → Option Int} {left : Int → Int → Bool} (h : PR w b r n m left cnt) : r ≠ b := by
  obtain ⟨D, L, h1, _⟩ := h
  exact h1.ne
theorem PR.lt {w : World} {b r n cnt : Nat} {m : Int → Int → Option Int} {left : Int → Int → Bool} (h : PR w b r n m left cnt) : r < w.heap.size := by
  obtain ⟨D, L, h1, _⟩ := h
  exact h1.lt
theorem PR.left_eq {w : World} {b r n cnt : Nat} {m : Int → Int → Option Int} {left : Int → Int → Bool} (h : PR w b r n m left cnt) : w.rangeLeft b r = cnt := by
  obtain ⟨D, L, h1, _⟩ := h
  exact h1.left_eq
theorem PR.kept {w w' : World} {b r n cnt : Nat} {m : Int → Int → Option Int} {left : Int → Int → Bool} {row : Option Nat} (h : PR w b r n m left cnt) (hg : w.grownBy w' row) (hb : some b ≠ row) (hr : some r ≠ row) : PR w' b r n m left cnt := by
  obtain ⟨D, L, h1, r1⟩ := h
  exact ⟨D, L, h1.kept hg hb hr, r1⟩
theorem PR.later {w w' : World} {b r n cnt : Nat} {m : Int → Int → Option Int} {left : Int → Int → Bool} (h : PR w b r n m left cnt) (hb : Below w.heap.size w w') : PR w' b r n m left cnt :=
  h.kept (row := none) ⟨hb.os, hb.tape, hb.output, hb.size, fun i hi _ => hb.block i hi⟩ (by simp) (by simp)
theorem PR.congr {w : World} {b r n cnt : Nat} {m : Int → Int → Option Int} {left left' : Int → Int → Bool} (h : PR w b r n m left cnt) (e : ∀ x y, left x y = left' x y) : PR w b r n m left' cnt := by
  obtain ⟨D, L, h1, r1, r2⟩ := h
  exact ⟨D, L, h1, r1, fun x y hx hy => by rw [r2 x y hx hy, e]⟩
/-- 'left' without one key. -/
def strike (left : Int → Int → Bool) (x y : Int) : Int → Int → Bool := fun p q => left p q && !decide (p = x ∧ q = y)
def delM (m : Int → Int → Option Int) (x y : Int) : Int → Int → Option Int := fun p q => if p = x ∧ q = y then none else m p q
theorem wpList_prange (w : World) {ops : Array Oper} {rest : List Oper} {o : Oper} {a : Act} {Q : Exit → Act → World → Prop} (hg : o.guard = none) (mo : Operand) (hop : o.op = Op.range 101 mo)
    (b n : Nat) (m : Int → Int → Option Int) (hm : a.eval mo = .map (some b)) (h : PM w b n m)
    (hK : ∀ w' cnt, cnt ≤ n → PR w' b w.heap.size n m (fun x y => (m x y).isSome) cnt → Below w.heap.size w w' → w'.heap.size = w.heap.size + 1 → wpList Tryz.prog ops Q rest (a.put o.dst (.pointer (some ⟨w.heap.size, 0, none⟩))) w') :
    wpList Tryz.prog ops Q (o :: rest) a w := by
  obtain ⟨D, h1, h2⟩ := h
  refine wpList_range_own w hg mo 101 hop _ _ placeKeyed Tryz.underlying101 _ b n D hm h1 ?_
  intro w' hr hgw hs
  refine hK w' (Maps.size D) h1.size_le ⟨D, Maps.has D, hr, h2, fun x y hx hy => (h2 x y hx hy).1⟩ ?_ hs
  exact ⟨hgw.os, hgw.tape, hgw.output, hgw.size, fun i hi => hgw.block i hi (by simp)⟩
theorem wpList_pnext (w : World) {ops : Array Oper} {rest : List Oper} {o : Oper} {a : Act} {Q : Exit → Act → World → Prop} (hg : o.guard = none) (it : Operand) (hop : o.op = Op.next it false)
    (b r n : Nat) (m : Int → Int → Option Int) (left : Int → Int → Bool) (cnt : Nat) (hit : a.eval it = .pointer (some ⟨r, 0, none⟩)) (h : PR w b r n m left cnt) (hle : ∀ x y, Wf x → Wf y → left x y = true → (m x y).isSome = true)
    (hDone : (∀ x y, Wf x → Wf y → left x y = false) → wpList Tryz.prog ops Q rest (a.put o.dst (.tuple #[.bool false])) w)
    (hMore : ∀ (x y c : Int) (w' : World) (cnt' : Nat), Wf x → Wf y → Wf c → left x y = true → m x y = some c → PR w' b r n m (strike left x y) cnt' → cnt' < cnt → w.grownBy w' (some r) → w'.heap.size = w.heap.size →
      (Instr.entry (.pointer (some ⟨r, 0, none⟩))).run Tryz.prog w' = .ok (.tuple #[.agg #[.int .i64 x, .int .i64 y], .int .i64 c]) w' → wpList Tryz.prog ops Q rest (a.put o.dst (.tuple #[.bool true, .agg #[.int .i64 x, .int .i64 y], .int .i64 c])) w') :
    wpList Tryz.prog ops Q (o :: rest) a w := by
  obtain ⟨D, L, h1, h2, h3⟩ := h
  refine wpList_next_ranges (α := Int × Int) (β := Int) w hg it hop _ placeKeyed _ (fun p => .agg #[.int .i64 p.1, .int .i64 p.2]) (Value.int .i64) (fun key kl hk => by obtain ⟨x, y, e, _⟩ := keyOf_place_inv hk; exact ⟨(x, y), e⟩) (fun v y hv => by obtain ⟨c, e, _⟩ := plainElem_int_inv Tryz.underlying2 hv; exact ⟨c, e⟩) b r n D L cnt hit h1 ?_ ?_
  · intro _ hl
    exact hDone fun x y hx hy => by rw [← h3 x y hx hy]; exact hl _
  · rintro ⟨x, y⟩ c kl z w' cnt' hkey hl hv hat hr hlt hgw hs hen
    obtain ⟨x', y', e, rfl, hx, hy⟩ := keyOf_place_inv hkey
    simp at e
    obtain ⟨rfl, rfl⟩ := e
    obtain ⟨c', e, rfl, hc⟩ := plainElem_int_inv Tryz.underlying2 hv
    simp at e
    subst e
    have hl' : left x y = true := by rw [← h3 x y hx hy]; exact hl
    have hsome := hle x y hx hy hl'
    have hat' := (h2 x y hx hy).2
    rw [hat] at hat'
    simp at hat'
    have hm : m x y = some c := by
      obtain ⟨u, hu⟩ := Option.isSome_iff_exists.1 hsome
      rw [hu] at hat' ⊢
      simp at hat'
      rw [hat']
    refine hMore x y c w' cnt' hx hy hc hl' hm ⟨D, _, hr, h2, fun p q hp hq => ?_⟩ hlt hgw hs hen
    rw [h3 p q hp hq, kp_same hp hq hx hy]
    rfl
theorem wpList_pdelete (w : World) {ops : Array Oper} {rest : List Oper} {o : Oper} {a : Act} {Q : Exit → Act → World → Prop} (hg : o.guard = none) (mo xo : Operand) (hop : o.op = Op.call { callee := Callee.builtin Builtin.delete, args := #[mo, xo], argTypes := #[101, 172] })
    (b r n : Nat) (m : Int → Int → Option Int) (left : Int → Int → Bool) (cnt : Nat) (hm : a.eval mo = .map (some b)) (h : PR w b r n m left cnt) (x y : Int) (hx : a.eval xo = .agg #[.int .i64 x, .int .i64 y]) (hwx : Wf x) (hwy : Wf y)
    (hK : ∀ w' cnt', PR w' b r n (delM m x y) (strike left x y) cnt' → cnt' ≤ cnt → w.grownBy w' (some b) → wpList Tryz.prog ops Q rest (a.put o.dst (.tuple #[])) w') :
    wpList Tryz.prog ops Q (o :: rest) a w := by
  obtain ⟨D, L, h1, h2, h3⟩ := h
  refine wpList_delete_ranges w hg mo xo 101 172 hop _ placeKeyed Tryz.underlying101 _ b r n D L cnt hm h1 _ _ hx (keyOf_place hwx hwy) ?_
  intro w' cnt' hr hle ht
  refine hK w' cnt' ⟨_, _, hr, fun p q hp hq => ?_, fun p q hp hq => ?_⟩ hle ht.grown
  · unfold delM
    by_cases e : p = x ∧ q = y
    · obtain ⟨rfl, rfl⟩ := e
      rw [if_pos ⟨rfl, rfl⟩]
      exact ⟨has_del_same, atKey_del_same _⟩
    · rw [if_neg e, has_del_other (fun q => e (kp_inj hp hq hwx hwy q)), atKey_del_other (fun q => e (kp_inj hp hq hwx hwy q))]
      exact h2 p q hp hq
  · rw [h3 p q hp hq, kp_same hp hq hwx hwy]
    rfl
theorem PM.congrW {w : World} {b n : Nat} {m m' : Int → Int → Option Int} (h : PM w b n m) (e : ∀ x y, Wf x → Wf y → m x y = m' x y) : PM w b n m' := by
  obtain ⟨D, h1, r⟩ := h
  exact ⟨D, h1, fun x y hx hy => by rw [← e x y hx hy]; exact r x y hx hy⟩
theorem PR.congrM {w : World} {b r n cnt : Nat} {m m' : Int → Int → Option Int} {left left' : Int → Int → Bool} (h : PR w b r n m left cnt) (e : ∀ x y, m x y = m' x y) (e' : ∀ x y, left x y = left' x y) : PR w b r n m' left' cnt := by
  obtain ⟨D, L, h1, r1, r2⟩ := h
  exact ⟨D, L, h1, fun x y hx hy => by rw [← e]; exact r1 x y hx hy, fun x y hx hy => by rw [r2 x y hx hy, e']⟩
/-- 'delete(m, k)' at a step of a region that draws its order. -/
theorem step_pdelete {ops : Array Oper} {o : Oper} {a : Act} {K : Act → World → Prop} {Q : Exit → Act → World → Prop} {E : Prop} (w : World) (hg : o.guard = none) (mo xo : Operand) (hop : o.op = Op.call { callee := Callee.builtin Builtin.delete, args := #[mo, xo], argTypes := #[101, 172] })
    (b r n : Nat) (m : Int → Int → Option Int) (left : Int → Int → Bool) (cnt : Nat) (hm : a.eval mo = .map (some b)) (h : PR w b r n m left cnt) (x y : Int) (hx : a.eval xo = .agg #[.int .i64 x, .int .i64 y]) (hwx : Wf x) (hwy : Wf y)
    (hK : ∀ w' cnt', PR w' b r n (delM m x y) (strike left x y) cnt' → cnt' ≤ cnt → w.grownBy w' (some b) → K (a.put o.dst (.tuple #[])) w') :
    if Region.wanted o (yielded ops a.tmps) = true then Oper.wp Tryz.prog o a w K Q else E := by
  have hw : Region.wanted o (yielded ops a.tmps) = true := by simp [Region.wanted, hg]
  rw [if_pos hw]
  obtain ⟨D, L, h1, h2, h3⟩ := h
  obtain ⟨w', cnt', hrun, r1, r2, r3⟩ := h1.drop placeKeyed Tryz.underlying101 (keyOf_place hwx hwy) o.type
  unfold Oper.wp
  simp [execOp, hop, resolve, invoke, builtin, hm, hx, hrun, Result.andThen]
  refine hK w' cnt' ⟨_, _, r1, fun p q hp hq => ?_, fun p q hp hq => ?_⟩ r2 r3.grown
  · unfold delM
    by_cases e : p = x ∧ q = y
    · obtain ⟨rfl, rfl⟩ := e
      rw [if_pos ⟨rfl, rfl⟩]
      exact ⟨has_del_same, atKey_del_same _⟩
    · rw [if_neg e, has_del_other (fun q => e (kp_inj hp hq hwx hwy q)), atKey_del_other (fun q => e (kp_inj hp hq hwx hwy q))]
      exact h2 p q hp hq
  · rw [h3 p q hp hq, kp_same hp hq hwx hwy]
    rfl
end

section
open Go.RowKit Go.Sort Go.Shelf Go.Lib
-- Own text. slices.SortFunc over a row of cells, an empty one too; the lists that a map's entries make.
theorem sortCell_any (B n : Nat) (F : Nat → Int) (v : Value) (w : World) (h : Row w B 3 n F v) (hf : Free w (n * 3) v) (hn : n ≤ 1048576) :
    Calls Tryz.prog 109 #[v, .func (.func 110) #[] #[]] w fun e w' => e = .returned (.tuple #[]) ∧ ∃ d : Array (List Int), d.size = n ∧ (d.toList.Perm (rowD 3 n F).toList ∧ SortedIn (ltOf (cf2 (fun x => x.getD 0 0) (fun x => x.getD 1 0))) 0 n d) ∧ (Row w' B 3 n (rowF 3 d) v ∧ Free w' (n * 3) v) ∧ w.grownBy w' (turn n v) := by
  obtain ⟨ao, cp, rfl⟩ := h.form
  rcases Nat.eq_zero_or_pos n with e | e
  · subst e
    have hcon := AnyF.slices_SortFunc_none Tryz.sortCell ao cp (.func (.func 110) #[] #[]) w
    change Calls Tryz.prog 109 _ _ _ at hcon
    refine hcon.mono ?_
    rintro e w' ⟨rfl, rfl⟩
    refine ⟨rfl, #[], rfl, ⟨by simp [rowD], fun i j _ hij hj => by omega⟩, ⟨⟨_, _, rfl, fun q => absurd q (Nat.lt_irrefl 0)⟩, by rw [Nat.zero_mul]; exact Free.of0 _ _⟩, ⟨rfl, rfl, rfl, Nat.le_refl _, fun _ _ _ => rfl⟩⟩
  · obtain ⟨g, o, rfl, hB, hg, _⟩ := h.at e
    refine (sortCell_is B n g o cp F w h hf hB hg hn).mono ?_
    rintro e' w' ⟨rfl, d, h1, h2, h3, h4⟩
    refine ⟨rfl, d, h1, h2, h3, ?_⟩
    have : turn n (.slice (some ⟨g, o, none⟩) n cp) = some g := by unfold turn; rw [if_neg (by omega)]; rfl
    rw [this]
    exact h4
/-- The entries of a map that have come: all that are not left, each once. -/
def Col3 (m : Int → Int → Option Int) (left : Int → Int → Bool) (L : List (List Int)) : Prop :=
  (∀ t ∈ L, ∃ x y v, t = [x, y, v] ∧ Wf x ∧ Wf y ∧ m x y = some v ∧ left x y = false) ∧ (∀ x y v, Wf x → Wf y → m x y = some v → left x y = false → [x, y, v] ∈ L) ∧ L.Nodup ∧ ∀ x y, left x y = true → (m x y).isSome = true
theorem Col3.start (m : Int → Int → Option Int) : Col3 m (fun x y => (m x y).isSome) [] := by
  refine ⟨fun t ht => absurd ht (by simp), fun x y v _ _ h h' => ?_, by simp, fun _ _ h => h⟩
  have h2 : (m x y).isSome = false := h'
  rw [h] at h2
  simp at h2
theorem Col3.len {m : Int → Int → Option Int} {left : Int → Int → Bool} {L : List (List Int)} (h : Col3 m left L) : ∀ t ∈ L, t.length = 3 := fun t ht => by
  obtain ⟨x, y, v, rfl, _⟩ := h.1 t ht
  rfl
theorem Col3.step {m : Int → Int → Option Int} {left : Int → Int → Bool} {L : List (List Int)} (h : Col3 m left L) {x y c : Int} (hx : Wf x) (hy : Wf y) (hl : left x y = true) (hm : m x y = some c) : Col3 m (strike left x y) (L ++ [[x, y, c]]) := by
  refine ⟨fun t ht => ?_, fun p q v hp hq h1 h2 => ?_, ?_, fun p q h1 => ?_⟩
  · rcases List.mem_append.1 ht with ht | ht
    · obtain ⟨p, q, v, rfl, h1, h2, h3, h4⟩ := h.1 t ht
      exact ⟨p, q, v, rfl, h1, h2, h3, by unfold strike; rw [h4]; rfl⟩
    · simp at ht
      subst ht
      exact ⟨x, y, c, rfl, hx, hy, hm, by simp [strike]⟩
  · by_cases e : p = x ∧ q = y
    · obtain ⟨rfl, rfl⟩ := e
      rw [hm] at h1
      simp at h1
      subst h1
      simp
    · refine List.mem_append.2 (Or.inl (h.2.1 p q v hp hq h1 ?_))
      unfold strike at h2
      rw [decide_eq_false e] at h2
      simpa using h2
  · refine List.nodup_append.2 ⟨h.2.2.1, by simp, ?_⟩
    intro a ha b hb e
    simp at hb
    subst hb
    subst e
    obtain ⟨p, q, v, e, _, _, _, h4⟩ := h.1 _ ha
    simp at e
    obtain ⟨rfl, rfl, _⟩ := e
    rw [hl] at h4
    simp at h4
  · unfold strike at h1
    exact h.2.2.2 p q (by simp at h1; exact h1.1)
/-- A row of cells that rises and has just what a map has. -/
structure MapRow (m : Int → Int → Option Int) (nc : Nat) (c : Nat → Int) : Prop where
  rise : ∀ j, j < nc → ∀ i, i < j → pairLt (c (i * 3)) (c (i * 3 + 1)) (c (j * 3)) (c (j * 3 + 1))
  wf : ∀ i, i < nc → Wf (c (i * 3)) ∧ Wf (c (i * 3 + 1))
  has : ∀ i, i < nc → m (c (i * 3)) (c (i * 3 + 1)) = some (c (i * 3 + 2))
  all : ∀ x y v, Wf x → Wf y → m x y = some v → ∃ i, i < nc ∧ c (i * 3) = x ∧ c (i * 3 + 1) = y ∧ c (i * 3 + 2) = v
theorem rowD_list (m n : Nat) (F : Nat → Int) : (rowD m n F).toList = (List.range n).map (struD F m) := by
  unfold rowD struD
  simp
theorem struD_three (c : Nat → Int) (i : Nat) : struD c 3 i = [c (i * 3), c (i * 3 + 1), c (i * 3 + 2)] := rfl
theorem MapRow.up {m : Int → Int → Option Int} {nc : Nat} {c : Nat → Int} (h : MapRow m nc c) : ((rowD 3 nc c).toList).Pairwise (Lt2 (fun x => x.getD 0 0) (fun x => x.getD 1 0)) := by
  rw [rowD_list, List.pairwise_map, List.pairwise_iff_getElem]
  intro i j hi hj hij
  simp at hi hj
  simp only [List.getElem_range]
  exact h.rise j hj i hij
theorem Lt2.nodup {k s : List Int → Int} {l : List (List Int)} (h : l.Pairwise (Lt2 k s)) : l.Nodup := h.imp (fun {a b} h e => h.ne (by subst e; exact ⟨rfl, rfl⟩))
theorem MapRow.perm {m : Int → Int → Option Int} {nc : Nat} {c : Nat → Int} (h : MapRow m nc c) {left : Int → Int → Bool} {L : List (List Int)} (hL : Col3 m left L) (hd : ∀ x y, Wf x → Wf y → left x y = false) : L.Perm (rowD 3 nc c).toList := by
  refine (List.perm_ext_iff_of_nodup hL.2.2.1 (Lt2.nodup h.up)).2 (fun t => ?_)
  rw [rowD_list, List.mem_map]
  constructor
  · intro ht
    obtain ⟨x, y, v, rfl, hx, hy, hm, _⟩ := hL.1 t ht
    obtain ⟨i, hi, rfl, rfl, rfl⟩ := h.all x y v hx hy hm
    exact ⟨i, List.mem_range.2 hi, struD_three c i⟩
  · rintro ⟨i, hi, rfl⟩
    have hi' := List.mem_range.1 hi
    rw [struD_three]
    exact hL.2.1 _ _ _ (h.wf i hi').1 (h.wf i hi').2 (h.has i hi') (hd _ _ (h.wf i hi').1 (h.wf i hi').2)
theorem rowD_flat {m : Nat} (hm : 0 < m) (L : List (List Int)) (hL : ∀ t ∈ L, t.length = m) : (rowD m L.length (fun p => L.flatten.getD p 0)).toList = L := by
  rw [rowD_list]
  apply List.ext_getElem (by simp)
  intro i h1 h2
  have hi : i < L.length := h2
  simp only [List.getElem_map, List.getElem_range]
  apply List.ext_getElem
  · rw [struD_len, hL _ (List.getElem_mem _)]
  · intro q h3 h4
    have hq : q < m := by rw [struD_len] at h3; exact h3
    have hlt : i * m + q < L.length * m := by
      calc i * m + q < i * m + m := by omega
        _ = (i + 1) * m := by rw [Nat.succ_mul]
        _ ≤ L.length * m := Nat.mul_le_mul_right m hi
    have e := flat_get (m := m) L (i * m + q) hL hlt
    have d1 : (i * m + q) / m = i := by rw [Nat.mul_comm, Nat.mul_add_div hm, Nat.div_eq_of_lt hq, Nat.add_zero]
    have d2 : (i * m + q) % m = q := by rw [Nat.mul_comm, Nat.mul_add_mod, Nat.mod_eq_of_lt hq]
    rw [d1, d2] at e
    have s1 : (struD (fun p => L.flatten.getD p 0) m i)[q] = L.flatten.getD (i * m + q) 0 := by simp [struD]
    rw [s1, e]
    simp [hi, hL _ (List.getElem_mem hi), hq]
/-- What the sort of a map's entries leaves. -/
theorem MapRow.sorted {m : Int → Int → Option Int} {nc : Nat} {c : Nat → Int} (h : MapRow m nc c) {left : Int → Int → Bool} {L : List (List Int)} (hL : Col3 m left L) (hd : ∀ x y, Wf x → Wf y → left x y = false) : L.length = nc ∧ ∀ d : Array (List Int), d.size = L.length → d.toList.Perm (rowD 3 L.length (fun p => L.flatten.getD p 0)).toList → SortedIn (ltOf (cf2 (fun x => x.getD 0 0) (fun x => x.getD 1 0))) 0 L.length d → ∀ t, t < nc * 3 → rowF 3 d t = c t := by
  have hp := h.perm hL hd
  have hlen : L.length = nc := by rw [hp.length_eq, Array.length_toList, rowD_size]
  refine ⟨hlen, fun d h1 h2 h3 t ht => ?_⟩
  rw [rowD_flat (by omega) L hL.len] at h2
  have e := sorted_is h1 h3 (h2.trans hp) h.up
  have e2 : d = rowD 3 nc c := by
    apply Array.ext'
    exact e
  rw [e2]
  exact rowF_rowD 3 nc c t ht
/-- A list of structs whose keys rise, which has just what a map has, is a map's row. -/
theorem mapRow_list {m : Int → Int → Option Int} {L : List (List Int)} (hl : ∀ t ∈ L, t.length = 3) (hu : L.Pairwise (Lt2 (fun x => x.getD 0 0) (fun x => x.getD 1 0))) (hw : ∀ x y v, [x, y, v] ∈ L → (Wf x ∧ Wf y) ∧ m x y = some v) (ha : ∀ x y v, Wf x → Wf y → m x y = some v → [x, y, v] ∈ L) : MapRow m L.length (fun p => L.flatten.getD p 0) := by
  have three : ∀ t ∈ L, t = [t.getD 0 0, t.getD 1 0, t.getD 2 0] := fun t ht => by
    have h3 := hl t ht
    match t, h3 with
    | [a, b, c], _ => rfl
  have get : ∀ i (hi : i < L.length) q, q < 3 → L.flatten.getD (i * 3 + q) 0 = (L[i]'hi).getD q 0 := fun i hi q hq => by
    rw [flat_get (m := 3) L (i * 3 + q) hl (by omega)]
    have d1 : (i * 3 + q) / 3 = i := by omega
    have d2 : (i * 3 + q) % 3 = q := by omega
    rw [d1, d2]
    simp [hi]
  have mem : ∀ i (hi : i < L.length), [L.flatten.getD (i * 3) 0, L.flatten.getD (i * 3 + 1) 0, L.flatten.getD (i * 3 + 2) 0] ∈ L := fun i hi => by
    have g0 := get i hi 0 (by omega)
    rw [Nat.add_zero] at g0
    rw [g0, get i hi 1 (by omega), get i hi 2 (by omega), ← three _ (List.getElem_mem hi)]
    exact List.getElem_mem hi
  refine ⟨fun j hj i hij => ?_, fun i hi => (hw _ _ _ (mem i hi)).1, fun i hi => (hw _ _ _ (mem i hi)).2, fun x y v hx hy hm => ?_⟩
  · have h := (List.pairwise_iff_getElem.1 hu) i j (by omega) hj hij
    have g0 := get i (by omega) 0 (by omega)
    have g1 := get j hj 0 (by omega)
    rw [Nat.add_zero] at g0 g1
    show pairLt (L.flatten.getD (i * 3) 0) (L.flatten.getD (i * 3 + 1) 0) (L.flatten.getD (j * 3) 0) (L.flatten.getD (j * 3 + 1) 0)
    rw [g0, g1, get i (by omega) 1 (by omega), get j hj 1 (by omega)]
    exact h
  · obtain ⟨i, hi, e⟩ := List.mem_iff_getElem.1 (ha x y v hx hy hm)
    have g0 := get i hi 0 (by omega)
    rw [Nat.add_zero] at g0
    refine ⟨i, hi, ?_, ?_, ?_⟩
    · show L.flatten.getD (i * 3) 0 = x
      rw [g0, e]; rfl
    · show L.flatten.getD (i * 3 + 1) 0 = y
      rw [get i hi 1 (by omega), e]; rfl
    · show L.flatten.getD (i * 3 + 2) 0 = v
      rw [get i hi 2 (by omega), e]; rfl
theorem puts_some {p q v : Nat → Int} {x y u : Int} : ∀ {n : Nat}, puts p q v n x y = some u → ∃ i, i < n ∧ p i = x ∧ q i = y ∧ v i = u
  | 0, h => by simp [puts] at h
  | n + 1, h => by
    unfold puts putM at h
    by_cases e : x = p n ∧ y = q n
    · rw [if_pos e] at h
      simp at h
      exact ⟨n, by omega, e.1.symm, e.2.symm, h⟩
    · rw [if_neg e] at h
      obtain ⟨i, hi, r⟩ := puts_some h
      exact ⟨i, by omega, r⟩
theorem cellM_some {S : Sto} {x y u : Int} (h : cellM S S.nc x y = some u) : ∃ i, i < S.nc ∧ S.c (i * 3) = x ∧ S.c (i * 3 + 1) = y ∧ S.c (i * 3 + 2) = u := puts_some h
end
end Go.Proofs.YtpfmbfmlpoibeaaGreat
