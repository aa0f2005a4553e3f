/-
  Own text. A map from two whole numbers to one, that a call has made: what it holds, as a plain function; no condition but that the numbers fit.
-/
import Derived.Test.YtpfmbfmlpoibeaaGreatColsP
import Derived.Maps.OwnSet
import Derived.DeepKeys4
namespace Go.Proofs.YtpfmbfmlpoibeaaGreat
open Go.RowKit Go.Maps

theorem laid_out : laidOutB Tryz.prog = true := by kernel_rfl
theorem placeKeyed : Keyed Tryz.prog 172 := Keyed.of_law (deep_law_laid laid_out (m := 3) (by omega) (of_decide_eq_true (by kernel_rfl)) (by kernel_rfl) (by kernel_rfl))
def Wf (a : Int) : Prop := (Lit.int .i64 a).wf = true
theorem wf_small {a : Int} (h0 : 0 ≤ a) (h1 : a ≤ 100000) : Wf a := by
  have e0 : IntKind.i64.min = -9223372036854775808 := by decide
  have e1 : IntKind.i64.max = 9223372036854775807 := by decide
  unfold Wf
  simp [Lit.wf, e0, e1]
  omega
def place (a b : Int) : Value := .agg #[.int .i64 a, .int .i64 b]
def kp (a b : Int) : Lit := .string (keyBytes [.int .i64 a, .int .i64 b])
theorem kp_key (a b : Int) : WideAt.IsKeyLit (kp a b) := trivial
theorem keyOf_place {a b : Int} (ha : Wf a) (hb : Wf b) : keyOf Tryz.prog 172 (.agg #[.int .i64 a, .int .i64 b]) = some (kp a b) := by
  have h1 : Tryz.prog.keyType 172 = true := by kernel_rfl
  have h2 : Tryz.prog.cellsOf 172 = 2 := by kernel_rfl
  have h3 : Tryz.prog.cellsOf 2 = 1 := by kernel_rfl
  have h4 : ∃ m, Tryz.prog.types.size = m + 1 := ⟨Tryz.prog.types.size - 1, by kernel_rfl⟩
  obtain ⟨m, h4⟩ := h4
  unfold Wf at ha hb
  unfold keyOf
  simp only [Tryz.underlying172]
  rw [if_pos (by simp [h1, Value.formed, Tryz.underlying172, h2]), h4]
  unfold Program.keyLits
  simp only [Tryz.underlying172, Value.cells]
  rw [if_pos (by rw [h2]; exact ⟨rfl, by kernel_rfl⟩)]
  simp [Program.keyLits, Tryz.underlying2, h3, ha, hb, kp]
theorem kp_inj {a b c d : Int} (ha : Wf a) (hb : Wf b) (hc : Wf c) (hd : Wf d) (h : kp a b = kp c d) : a = c ∧ b = d := by
  have := placeKeyed.inj (keyOf_place ha hb) (by rw [h]; exact keyOf_place hc hd)
  simpa using this
/-- Block b is a map of at most n entries; it has m a b at the key (a, b). -/
def PM (w : World) (b n : Nat) (m : Int → Int → Option Int) : Prop :=
  ∃ D : DataW Unit, w.ownsMap Tryz.prog 172 (plainElem Tryz.prog 2) b n D ∧ ∀ x y, Wf x → Wf y → Maps.has D (kp x y) = (m x y).isSome ∧ D.atKey (kp x y) (.lit (.int .i64 0)) = .lit (.int .i64 ((m x y).getD 0))
theorem PM.made (w : World) : PM (w.alloc (.map #[] 0)) w.heap.size 0 (fun _ _ => none) := ⟨.map [], World.ownsMap_made w _ _ _, fun _ _ _ _ => ⟨rfl, rfl⟩⟩
theorem PM.lt {w : World} {b n : Nat} {m : Int → Int → Option Int} (h : PM w b n m) : b < w.heap.size := by
  obtain ⟨D, h, _⟩ := h; exact h.lt
theorem PM.mono {w : World} {b n n' : Nat} {m : Int → Int → Option Int} (h : PM w b n m) (hn : n ≤ n') : PM w b n' m := by
  obtain ⟨D, h, r⟩ := h; exact ⟨D, h.mono hn, r⟩
theorem PM.kept {w w' : World} {b n : Nat} {m : Int → Int → Option Int} (h : PM w b n m) (hb : w'.heap[b]? = w.heap[b]?) : PM w' b n m := by
  obtain ⟨D, ⟨es, clock, h1, h2⟩, r⟩ := h
  exact ⟨D, ⟨es, clock, hb.trans h1, h2⟩, r⟩
theorem PM.later {w w' : World} {b n : Nat} {m : Int → Int → Option Int} (h : PM w b n m) (hb : Below w.heap.size w w') : PM w' b n m := h.kept (hb.block b h.lt)
theorem PM.alloc {w : World} {b n : Nat} {m : Int → Int → Option Int} (h : PM w b n m) (o : Obj) : PM (w.alloc o) b n m := h.later ((Below.refl _ _).alloc (Nat.le_refl _) o)
theorem PM.setCell {w : World} {b n : Nat} {m : Int → Int → Option Int} (h : PM w b n m) {a : Addr} (ha : b ≠ a.block) (u : Value) : PM (w.setCell a u) b n m := h.kept (Below.heap_setCell w a u b ha)
theorem PM.congr {w : World} {b n : Nat} {m m' : Int → Int → Option Int} (h : PM w b n m) (e : ∀ x y, m x y = m' x y) : PM w b n m' := by
  obtain ⟨D, h1, r⟩ := h; exact ⟨D, h1, fun x y hx hy => by rw [← e]; exact r x y hx hy⟩
theorem zero_i64 (w : World) : (zeroValue 2).run Tryz.prog w = .ok (.int .i64 0) w := by kernel_rfl
/-- 'v, ok := m[k]'. -/
theorem PM.look {w : World} {b n : Nat} {m : Int → Int → Option Int} (h : PM w b n m) {x y : Int} (hx : Wf x) (hy : Wf y) :
    (Instr.lookup 101 (.map (some b)) (.agg #[.int .i64 x, .int .i64 y]) true).run Tryz.prog w = .ok (.tuple #[.int .i64 ((m x y).getD 0), .bool (m x y).isSome]) w := by
  obtain ⟨D, h, r⟩ := h
  obtain ⟨v, ps, hrun, hv⟩ := h.look_ok placeKeyed Tryz.underlying101 (zero_i64 w) (plainElem_int Tryz.underlying2 (by decide)) (keyOf_place hx hy)
  obtain ⟨c, rfl, hc, _⟩ := plainElem_int_inv Tryz.underlying2 hv
  rw [hrun, (r x y hx hy).1]
  have := congrArg Prod.fst hc
  rw [(r x y hx hy).2] at this
  simp at this
  rw [this]
def putM (m : Int → Int → Option Int) (a b v : Int) (x y : Int) : Option Int := if x = a ∧ y = b then some v else m x y
/-- 'm[k] = v'. -/
theorem PM.put {w : World} {b n : Nat} {m : Int → Int → Option Int} (h : PM w b n m) (hn : n < maxLen) {x y v : Int} (hx : Wf x) (hy : Wf y) (hv : Wf v) :
    ∃ w', (Instr.mapUpdate 101 (.map (some b)) (.agg #[.int .i64 x, .int .i64 y]) (.int .i64 v)).run Tryz.prog w = .ok () w' ∧ PM w' b (n + 1) (putM m x y v) ∧ w.grownBy w' (some b) := by
  obtain ⟨D, h, r⟩ := h
  obtain ⟨w', hrun, h', hg⟩ := h.update placeKeyed Tryz.underlying101 hn (keyOf_place hx hy) (plainElem_int Tryz.underlying2 hv)
  refine ⟨w', hrun, ⟨_, h', fun p q hp hq => ?_⟩, hg⟩
  unfold putM
  by_cases e : p = x ∧ q = y
  · obtain ⟨rfl, rfl⟩ := e
    rw [if_pos ⟨rfl, rfl⟩]
    exact ⟨has_put_same h.isMap (kp_key _ _) _, atKey_put_same h.isMap (kp_key _ _) _ _⟩
  · rw [if_neg e, has_put_other (fun q => e (kp_inj hp hq hx hy q)), atKey_put_other (fun q => e (kp_inj hp hq hx hy q))]
    exact r p q hp hq
theorem wpList_put (w : World) {ops : Array Oper} {rest : List Oper} {o : Oper} {a : Act} {Q : Exit → Act → World → Prop}
    (hg : o.guard = none) (mo x v : Operand) (hop : o.op = Op.mapUpdate 101 mo x v)
    (b n : Nat) (m : Int → Int → Option Int) (hm : a.eval mo = .map (some b)) (h : PM w b n m) (hn : n < maxLen) (p q u : Int) (hx : a.eval x = .agg #[.int .i64 p, .int .i64 q]) (hv : a.eval v = .int .i64 u) (hp : Wf p) (hq : Wf q) (hu : Wf u)
    (hK : ∀ w', PM w' b (n + 1) (putM m p q u) → w.grownBy w' (some b) → wpList Tryz.prog ops Q rest (a.put o.dst undef) w') :
    wpList Tryz.prog ops Q (o :: rest) a w := by
  refine wpList_plain hg fun K' hK' => ?_
  obtain ⟨w', hrun, r1, r2⟩ := h.put hn hp hq hu
  unfold Oper.wp
  simp [execOp, hop, hm, hx, hv, hrun, Result.andThen]
  exact hK' _ _ (hK w' r1 r2)
/-- What a map has behind n puts, put i at (p i, q i), of v i. -/
def puts (p q v : Nat → Int) : Nat → Int → Int → Option Int
  | 0, _, _ => none
  | n + 1, x, y => putM (puts p q v n) (p n) (q n) (v n) x y
theorem puts_has (p q v : Nat → Int) (x y : Int) : ∀ n, (puts p q v n x y).isSome = true ↔ ∃ i, i < n ∧ p i = x ∧ q i = y
  | 0 => by simp [puts]
  | n + 1 => by
    have ih := puts_has p q v x y n
    unfold puts putM
    by_cases e : x = p n ∧ y = q n
    · rw [if_pos e]
      exact ⟨fun _ => ⟨n, by omega, e.1.symm, e.2.symm⟩, fun _ => rfl⟩
    · rw [if_neg e, ih]
      constructor
      · rintro ⟨i, hi, h⟩; exact ⟨i, by omega, h⟩
      · rintro ⟨i, hi, h1, h2⟩
        by_cases hin : i = n
        · subst hin; exact absurd ⟨h1.symm, h2.symm⟩ e
        · exact ⟨i, by omega, h1, h2⟩
def cellM (S : Sto) (n : Nat) : Int → Int → Option Int := puts (fun i => S.c (i * 3)) (fun i => S.c (i * 3 + 1)) (fun i => S.c (i * 3 + 2)) n
def writeM (S : Sto) (n : Nat) : Int → Int → Option Int := puts (fun i => S.k (i * 4)) (fun i => S.k (i * 4 + 2)) (fun i => S.k (i * 4 + 3)) n
theorem cellM_has (S : Sto) (n : Nat) (x y : Int) : (cellM S n x y).isSome = true ↔ hasCell S n x y := puts_has _ _ _ x y n
theorem writeM_has (S : Sto) (n : Nat) (x y : Int) : (writeM S n x y).isSome = true ↔ hasWrite S n x y := puts_has _ _ _ x y n
end Go.Proofs.YtpfmbfmlpoibeaaGreat
