/-
  Own text, merged of SortD, StoA, GrpO, RngI.
-/
import Derived.Test.YtdfikaehipdjaaaPk3
namespace Go.Proofs.Ytdfikaehipdjaaa
section
open Go.RowKit Go.Maps
theorem kp_same {p q x y : Int} (hp : Wf p) (hq : Wf q) (hx : Wf x) (hy : Wf y) : (kp p q).sameKey (kp x y) = decide (p = x ∧ q = y) := by
  by_cases e : p = x ∧ q = y
  · obtain ⟨rfl, rfl⟩ := e
    simp [kp, Lit.sameKey]
  · rw [decide_eq_false e]
    have : kp p q ≠ kp x y := fun h => e (kp_inj hp hq hx hy h)
    unfold kp at this ⊢
    unfold Lit.sameKey
    rw [beq_eq_false_iff_ne]
    exact fun h => this (by rw [h])
theorem lits_int {m : Nat} {c : Value} {ls : List Lit} (h : Try.prog.keyLits (m + 1) 2 [c] = some ls) : ∃ x, c = .int .i64 x ∧ ls = [.int .i64 x] ∧ Wf x := by
  unfold Program.keyLits at h
  simp only [Try.underlying2] at h
  cases c <;> simp at h
  obtain ⟨⟨rfl, hw⟩, rfl⟩ := h
  exact ⟨_, rfl, rfl, hw⟩
theorem keyOf_place_inv {key : Value} {kl : Lit} (h : keyOf Try.prog 106 key = some kl) : ∃ x y, key = .agg #[.int .i64 x, .int .i64 y] ∧ kl = kp x y ∧ Wf x ∧ Wf y := by
  have h2 : Try.prog.cellsOf 106 = 2 := by kernel_rfl
  have h3 : Try.prog.cellsOf 2 = 1 := by kernel_rfl
  obtain ⟨m, h4⟩ : ∃ m, Try.prog.types.size = m + 1 := ⟨Try.prog.types.size - 1, by kernel_rfl⟩
  have hf := h
  unfold keyOf at hf
  simp only [Try.underlying106] at hf
  by_cases hc : (Try.prog.keyType 106 && key.formed Try.prog 106) = true
  case neg => rw [if_neg hc] at hf; cases hf
  rw [if_pos hc, h4] at hf
  have hform := (Bool.and_eq_true_iff.1 hc).2
  cases key with
  | agg cs =>
    simp [Value.formed, Try.underlying106, h2] at hform
    obtain ⟨c0, c1, rfl⟩ : ∃ c0 c1, cs = #[c0, c1] := by
      exact ⟨cs[0]'(by omega), cs[1]'(by omega), Array.ext (by simpa using hform) (fun i h0 h1 => by
        have : i = 0 ∨ i = 1 := by simp at h1; omega
        rcases this with rfl | rfl <;> rfl)⟩
    unfold Program.keyLits at hf
    simp only [Try.underlying106, Value.cells] at hf
    rw [if_pos (by rw [h2]; exact ⟨rfl, by kernel_rfl⟩)] at hf
    simp [h3, List.mapM_cons, Option.bind_eq_some_iff] at hf
    obtain ⟨l0, g0, _, ⟨l1, g1, rfl⟩, rfl⟩ := hf
    obtain ⟨x, rfl, rfl, hx⟩ := lits_int g0
    obtain ⟨y, rfl, rfl, hy⟩ := lits_int g1
    exact ⟨x, y, rfl, by simp [kp], hx, hy⟩
  | _ => simp [Value.formed, Try.underlying106] at hform
/-- Block b is a map that has m, block r an iterator over it; 'left' tells which keys are still to come, cnt how many at most. -/
def PR (w : World) (b r n : Nat) (m : Int → Int → Option Int) (left : Int → Int → Bool) (cnt : Nat) : Prop :=
  ∃ (D : DataW Unit) (L : Lit → Bool), w.ranges Try.prog 106 (plainElem Try.prog 2) b r n D L cnt ∧ (∀ x y, Wf x → Wf y → Maps.has D (kp x y) = (m x y).isSome ∧ D.atKey (kp x y) (.lit (.int .i64 0)) = .lit (.int .i64 ((m x y).getD 0))) ∧ ∀ x y, Wf x → Wf y → L (kp x y) = left x y
theorem PR.pm {w : World} {b r n cnt : Nat} {m : Int → Int → Option Int} {left : Int → Int → Bool} (h : PR w b r n m left cnt) : PM w b n m := by
  obtain ⟨D, L, h1, h2, _⟩ := h
  exact ⟨D, h1.owns, h2⟩
theorem PR.ne {w : World} {b r n cnt : Nat} {m : Int → Int → Option Int} {left : Int → Int → Bool} (h : PR w b r n m left cnt) : r ≠ b := by
  obtain ⟨D, L, h1, _⟩ := h
  exact h1.ne
theorem PR.lt {w : World} {b r n cnt : Nat} {m : Int → Int → Option Int} {left : Int → Int → Bool} (h : PR w b r n m left cnt) : r < w.heap.size := by
  obtain ⟨D, L, h1, _⟩ := h
  exact h1.lt
theorem PR.left_eq {w : World} {b r n cnt : Nat} {m : Int → Int → Option Int} {left : Int → Int → Bool} (h : PR w b r n m left cnt) : w.rangeLeft b r = cnt := by
  obtain ⟨D, L, h1, _⟩ := h
  exact h1.left_eq
theorem PR.kept {w w' : World} {b r n cnt : Nat} {m : Int → Int → Option Int} {left : Int → Int → Bool} {row : Option Nat} (h : PR w b r n m left cnt) (hg : w.grownBy w' row) (hb : some b ≠ row) (hr : some r ≠ row) : PR w' b r n m left cnt := by
  obtain ⟨D, L, h1, r1⟩ := h
  exact ⟨D, L, h1.kept hg hb hr, r1⟩
theorem PR.later {w w' : World} {b r n cnt : Nat} {m : Int → Int → Option Int} {left : Int → Int → Bool} (h : PR w b r n m left cnt) (hb : Below w.heap.size w w') : PR w' b r n m left cnt :=
  h.kept (row := none) ⟨hb.os, hb.tape, hb.output, hb.size, fun i hi _ => hb.block i hi⟩ (by simp) (by simp)
theorem PR.congr {w : World} {b r n cnt : Nat} {m : Int → Int → Option Int} {left left' : Int → Int → Bool} (h : PR w b r n m left cnt) (e : ∀ x y, left x y = left' x y) : PR w b r n m left' cnt := by
  obtain ⟨D, L, h1, r1, r2⟩ := h
  exact ⟨D, L, h1, r1, fun x y hx hy => by rw [r2 x y hx hy, e]⟩
/-- 'left' without one key. -/
def strike (left : Int → Int → Bool) (x y : Int) : Int → Int → Bool := fun p q => left p q && !decide (p = x ∧ q = y)
theorem wpList_prange (w : World) {ops : Array Oper} {rest : List Oper} {o : Oper} {a : Act} {Q : Exit → Act → World → Prop} (hg : o.guard = none) (mo : Operand) (hop : o.op = Op.range 74 mo)
    (b n : Nat) (m : Int → Int → Option Int) (hm : a.eval mo = .map (some b)) (h : PM w b n m)
    (hK : ∀ w' cnt, cnt ≤ n → PR w' b w.heap.size n m (fun x y => (m x y).isSome) cnt → Below w.heap.size w w' → w'.heap.size = w.heap.size + 1 → wpList Try.prog ops Q rest (a.put o.dst (.pointer (some ⟨w.heap.size, 0, none⟩))) w') :
    wpList Try.prog ops Q (o :: rest) a w := by
  obtain ⟨D, h1, h2⟩ := h
  refine wpList_range_own w hg mo 74 hop _ _ placeKeyed Try.underlying74 _ b n D hm h1 ?_
  intro w' hr hgw hs
  refine hK w' (Maps.size D) h1.size_le ⟨D, Maps.has D, hr, h2, fun x y hx hy => (h2 x y hx hy).1⟩ ?_ hs
  exact ⟨hgw.os, hgw.tape, hgw.output, hgw.size, fun i hi => hgw.block i hi (by simp)⟩
theorem wpList_pnext (w : World) {ops : Array Oper} {rest : List Oper} {o : Oper} {a : Act} {Q : Exit → Act → World → Prop} (hg : o.guard = none) (it : Operand) (hop : o.op = Op.next it false)
    (b r n : Nat) (m : Int → Int → Option Int) (left : Int → Int → Bool) (cnt : Nat) (hit : a.eval it = .pointer (some ⟨r, 0, none⟩)) (h : PR w b r n m left cnt) (hle : ∀ x y, Wf x → Wf y → left x y = true → (m x y).isSome = true)
    (hDone : (∀ x y, Wf x → Wf y → left x y = false) → wpList Try.prog ops Q rest (a.put o.dst (.tuple #[.bool false])) w)
    (hMore : ∀ (x y c : Int) (w' : World) (cnt' : Nat), Wf x → Wf y → Wf c → left x y = true → m x y = some c → PR w' b r n m (strike left x y) cnt' → cnt' < cnt → w.grownBy w' (some r) → w'.heap.size = w.heap.size →
      (Instr.entry (.pointer (some ⟨r, 0, none⟩))).run Try.prog w' = .ok (.tuple #[.agg #[.int .i64 x, .int .i64 y], .int .i64 c]) w' → wpList Try.prog ops Q rest (a.put o.dst (.tuple #[.bool true, .agg #[.int .i64 x, .int .i64 y], .int .i64 c])) w') :
    wpList Try.prog ops Q (o :: rest) a w := by
  obtain ⟨D, L, h1, h2, h3⟩ := h
  refine wpList_next_ranges (α := Int × Int) (β := Int) w hg it hop _ placeKeyed _ (fun p => .agg #[.int .i64 p.1, .int .i64 p.2]) (Value.int .i64) (fun key kl hk => by obtain ⟨x, y, e, _⟩ := keyOf_place_inv hk; exact ⟨(x, y), e⟩) (fun v y hv => by obtain ⟨c, e, _⟩ := plainElem_int_inv Try.underlying2 hv; exact ⟨c, e⟩) b r n D L cnt hit h1 ?_ ?_
  · intro _ hl
    exact hDone fun x y hx hy => by rw [← h3 x y hx hy]; exact hl _
  · rintro ⟨x, y⟩ c kl z w' cnt' hkey hl hv hat hr hlt hgw hs hen
    obtain ⟨x', y', e, rfl, hx, hy⟩ := keyOf_place_inv hkey
    simp at e
    obtain ⟨rfl, rfl⟩ := e
    obtain ⟨c', e, rfl, hc⟩ := plainElem_int_inv Try.underlying2 hv
    simp at e
    subst e
    have hl' : left x y = true := by rw [← h3 x y hx hy]; exact hl
    have hsome := hle x y hx hy hl'
    have hat' := (h2 x y hx hy).2
    rw [hat] at hat'
    simp at hat'
    have hm : m x y = some c := by
      obtain ⟨u, hu⟩ := Option.isSome_iff_exists.1 hsome
      rw [hu] at hat' ⊢
      simp at hat'
      rw [hat']
    refine hMore x y c w' cnt' hx hy hc hl' hm ⟨D, _, hr, h2, fun p q hp hq => ?_⟩ hlt hgw hs hen
    rw [h3 p q hp hq, kp_same hp hq hx hy]
    rfl
end

section
open Go.RowKit Go.Sort Go.Shelf Go.Lib
theorem sortCell_any (B n : Nat) (F : Nat → Int) (v : Value) (w : World) (h : Row w B 3 n F v) (hf : Free w (n * 3) v) (hn : n ≤ 1048576) :
    Calls Try.prog 59 #[v, .func (.func 51) #[] #[]] w fun e w' => e = .returned (.tuple #[]) ∧ ∃ d : Array (List Int), d.size = n ∧ (d.toList.Perm (rowD 3 n F).toList ∧ SortedIn (ltOf (cf2 (fun x => x.getD 0 0) (fun x => x.getD 1 0))) 0 n d) ∧ (Row w' B 3 n (rowF 3 d) v ∧ Free w' (n * 3) v) ∧ w.grownBy w' (turn n v) := by
  obtain ⟨ao, cp, rfl⟩ := h.form
  rcases Nat.eq_zero_or_pos n with e | e
  · subst e
    have hcon := AnyF.slices_SortFunc_none Try.sortCell ao cp (.func (.func 51) #[] #[]) w
    change Calls Try.prog 59 _ _ _ at hcon
    refine hcon.mono ?_
    rintro e w' ⟨rfl, rfl⟩
    refine ⟨rfl, #[], rfl, ⟨by simp [rowD], fun i j _ hij hj => by omega⟩, ⟨⟨_, _, rfl, fun q => absurd q (Nat.lt_irrefl 0)⟩, by rw [Nat.zero_mul]; exact Free.of0 _ _⟩, ⟨rfl, rfl, rfl, Nat.le_refl _, fun _ _ _ => rfl⟩⟩
  · obtain ⟨g, o, rfl, hB, hg, _⟩ := h.at e
    refine (sortCell_is B n g o cp F w h hf hB hg hn).mono ?_
    rintro e' w' ⟨rfl, d, h1, h2, h3, h4⟩
    refine ⟨rfl, d, h1, h2, h3, ?_⟩
    have : turn n (.slice (some ⟨g, o, none⟩) n cp) = some g := by unfold turn; rw [if_neg (by omega)]; rfl
    rw [this]
    exact h4
/-- The entries of a map that have come: all that are not left, each once. -/
def Col3 (m : Int → Int → Option Int) (left : Int → Int → Bool) (L : List (List Int)) : Prop :=
  (∀ t ∈ L, ∃ x y v, t = [x, y, v] ∧ Wf x ∧ Wf y ∧ m x y = some v ∧ left x y = false) ∧ (∀ x y v, Wf x → Wf y → m x y = some v → left x y = false → [x, y, v] ∈ L) ∧ L.Nodup ∧ ∀ x y, left x y = true → (m x y).isSome = true
theorem Col3.start (m : Int → Int → Option Int) : Col3 m (fun x y => (m x y).isSome) [] := by
  refine ⟨fun t ht => absurd ht (by simp), fun x y v _ _ h h' => ?_, by simp, fun _ _ h => h⟩
  have h2 : (m x y).isSome = false := h'
  rw [h] at h2
  simp at h2
theorem Col3.len {m : Int → Int → Option Int} {left : Int → Int → Bool} {L : List (List Int)} (h : Col3 m left L) : ∀ t ∈ L, t.length = 3 := fun t ht => by
  obtain ⟨x, y, v, rfl, _⟩ := h.1 t ht
  rfl
theorem Col3.step {m : Int → Int → Option Int} {left : Int → Int → Bool} {L : List (List Int)} (h : Col3 m left L) {x y c : Int} (hx : Wf x) (hy : Wf y) (hl : left x y = true) (hm : m x y = some c) : Col3 m (strike left x y) (L ++ [[x, y, c]]) := by
  refine ⟨fun t ht => ?_, fun p q v hp hq h1 h2 => ?_, ?_, fun p q h1 => ?_⟩
  · rcases List.mem_append.1 ht with ht | ht
    · obtain ⟨p, q, v, rfl, h1, h2, h3, h4⟩ := h.1 t ht
      exact ⟨p, q, v, rfl, h1, h2, h3, by unfold strike; rw [h4]; rfl⟩
    · simp at ht
      subst ht
      exact ⟨x, y, c, rfl, hx, hy, hm, by simp [strike]⟩
  · by_cases e : p = x ∧ q = y
    · obtain ⟨rfl, rfl⟩ := e
      rw [hm] at h1
      simp at h1
      subst h1
      simp
    · refine List.mem_append.2 (Or.inl (h.2.1 p q v hp hq h1 ?_))
      unfold strike at h2
      rw [decide_eq_false e] at h2
      simpa using h2
  · refine List.nodup_append.2 ⟨h.2.2.1, by simp, ?_⟩
    intro a ha b hb e
    simp at hb
    subst hb
    subst e
    obtain ⟨p, q, v, e, _, _, _, h4⟩ := h.1 _ ha
    simp at e
    obtain ⟨rfl, rfl, _⟩ := e
    rw [hl] at h4
    simp at h4
  · unfold strike at h1
    exact h.2.2.2 p q (by simp at h1; exact h1.1)
/-- A row of cells that rises and has just what a map has. -/
structure MapRow (m : Int → Int → Option Int) (nc : Nat) (c : Nat → Int) : Prop where
  rise : ∀ j, j < nc → ∀ i, i < j → pairLt (c (i * 3)) (c (i * 3 + 1)) (c (j * 3)) (c (j * 3 + 1))
  wf : ∀ i, i < nc → Wf (c (i * 3)) ∧ Wf (c (i * 3 + 1))
  has : ∀ i, i < nc → m (c (i * 3)) (c (i * 3 + 1)) = some (c (i * 3 + 2))
  all : ∀ x y v, Wf x → Wf y → m x y = some v → ∃ i, i < nc ∧ c (i * 3) = x ∧ c (i * 3 + 1) = y ∧ c (i * 3 + 2) = v
theorem rowD_list (m n : Nat) (F : Nat → Int) : (rowD m n F).toList = (List.range n).map (struD F m) := by
  unfold rowD struD
  simp
theorem struD_three (c : Nat → Int) (i : Nat) : struD c 3 i = [c (i * 3), c (i * 3 + 1), c (i * 3 + 2)] := rfl
theorem MapRow.up {m : Int → Int → Option Int} {nc : Nat} {c : Nat → Int} (h : MapRow m nc c) : ((rowD 3 nc c).toList).Pairwise (Lt2 (fun x => x.getD 0 0) (fun x => x.getD 1 0)) := by
  rw [rowD_list, List.pairwise_map, List.pairwise_iff_getElem]
  intro i j hi hj hij
  simp at hi hj
  simp only [List.getElem_range]
  exact h.rise j hj i hij
theorem Lt2.nodup {k s : List Int → Int} {l : List (List Int)} (h : l.Pairwise (Lt2 k s)) : l.Nodup := h.imp (fun {a b} h e => h.ne (by subst e; exact ⟨rfl, rfl⟩))
theorem MapRow.perm {m : Int → Int → Option Int} {nc : Nat} {c : Nat → Int} (h : MapRow m nc c) {left : Int → Int → Bool} {L : List (List Int)} (hL : Col3 m left L) (hd : ∀ x y, Wf x → Wf y → left x y = false) : L.Perm (rowD 3 nc c).toList := by
  refine (List.perm_ext_iff_of_nodup hL.2.2.1 (Lt2.nodup h.up)).2 (fun t => ?_)
  rw [rowD_list, List.mem_map]
  constructor
  · intro ht
    obtain ⟨x, y, v, rfl, hx, hy, hm, _⟩ := hL.1 t ht
    obtain ⟨i, hi, rfl, rfl, rfl⟩ := h.all x y v hx hy hm
    exact ⟨i, List.mem_range.2 hi, struD_three c i⟩
  · rintro ⟨i, hi, rfl⟩
    have hi' := List.mem_range.1 hi
    rw [struD_three]
    exact hL.2.1 _ _ _ (h.wf i hi').1 (h.wf i hi').2 (h.has i hi') (hd _ _ (h.wf i hi').1 (h.wf i hi').2)
theorem rowD_flat {m : Nat} (hm : 0 < m) (L : List (List Int)) (hL : ∀ t ∈ L, t.length = m) : (rowD m L.length (fun p => L.flatten.getD p 0)).toList = L := by
  rw [rowD_list]
  apply List.ext_getElem (by simp)
  intro i h1 h2
  have hi : i < L.length := h2
  simp only [List.getElem_map, List.getElem_range]
  apply List.ext_getElem
  · rw [struD_len, hL _ (List.getElem_mem _)]
  · intro q h3 h4
    have hq : q < m := by rw [struD_len] at h3; exact h3
    have hlt : i * m + q < L.length * m := by
      calc i * m + q < i * m + m := by omega
        _ = (i + 1) * m := by rw [Nat.succ_mul]
        _ ≤ L.length * m := Nat.mul_le_mul_right m hi
    have e := flat_get (m := m) L (i * m + q) hL hlt
    have d1 : (i * m + q) / m = i := by rw [Nat.mul_comm, Nat.mul_add_div hm, Nat.div_eq_of_lt hq, Nat.add_zero]
    have d2 : (i * m + q) % m = q := by rw [Nat.mul_comm, Nat.mul_add_mod, Nat.mod_eq_of_lt hq]
    rw [d1, d2] at e
    have s1 : (struD (fun p => L.flatten.getD p 0) m i)[q] = L.flatten.getD (i * m + q) 0 := by simp [struD]
    rw [s1, e]
    simp [hi, hL _ (List.getElem_mem hi), hq]
/-- What the sort of a map's entries leaves. -/
theorem MapRow.sorted {m : Int → Int → Option Int} {nc : Nat} {c : Nat → Int} (h : MapRow m nc c) {left : Int → Int → Bool} {L : List (List Int)} (hL : Col3 m left L) (hd : ∀ x y, Wf x → Wf y → left x y = false) : L.length = nc ∧ ∀ d : Array (List Int), d.size = L.length → d.toList.Perm (rowD 3 L.length (fun p => L.flatten.getD p 0)).toList → SortedIn (ltOf (cf2 (fun x => x.getD 0 0) (fun x => x.getD 1 0))) 0 L.length d → ∀ t, t < nc * 3 → rowF 3 d t = c t := by
  have hp := h.perm hL hd
  have hlen : L.length = nc := by rw [hp.length_eq, Array.length_toList, rowD_size]
  refine ⟨hlen, fun d h1 h2 h3 t ht => ?_⟩
  rw [rowD_flat (by omega) L hL.len] at h2
  have e := sorted_is h1 h3 (h2.trans hp) h.up
  have e2 : d = rowD 3 nc c := by
    apply Array.ext'
    exact e
  rw [e2]
  exact rowF_rowD 3 nc c t ht
theorem puts_some {p q v : Nat → Int} {x y u : Int} : ∀ {n : Nat}, puts p q v n x y = some u → ∃ i, i < n ∧ p i = x ∧ q i = y ∧ v i = u
  | 0, h => by simp [puts] at h
  | n + 1, h => by
    unfold puts putM at h
    by_cases e : x = p n ∧ y = q n
    · rw [if_pos e] at h
      simp at h
      exact ⟨n, by omega, e.1.symm, e.2.symm, h⟩
    · rw [if_neg e] at h
      obtain ⟨i, hi, r⟩ := puts_some h
      exact ⟨i, by omega, r⟩
theorem cellM_some {S : Sto} {x y u : Int} (h : cellM S S.nc x y = some u) : ∃ i, i < S.nc ∧ S.c (i * 3) = x ∧ S.c (i * 3 + 1) = y ∧ S.c (i * 3 + 2) = u := puts_some h
end
end Go.Proofs.Ytdfikaehipdjaaa

namespace Go.Proofs.Ytdfikaehipdjaaa
open Go.RowKit Go.Maps Go.Sort Go.Shelf Go.Lib

theorem run_copy (t ty e : TypeId) (i : TypeInfo) (z : Value) (m bytes : Nat) (ht : Try.prog.underlying t = some (.slice e)) (hi : Try.prog.info? e = some i) (hz : i.zero = some z) (hsize : i.size = m) (hby : i.bytes = bytes) (hzs : z.cells.size = m) (hm : 0 < m) (hb5 : bytes ≤ 1000)
    (w : World) (B n : Nat) (F : Nat → Int) (v : Value) (h : Own w B e m n F v) (hn : n ≤ 1048576) : ∃ v' w', (Builtin.append_ #[t, t] ty #[.slice none 0 0, v]).run Try.prog w = .ok v' w' ∧ Own w' w.heap.size e m n F v' ∧ Below w.heap.size w w' := by
  have hr := h.row.1
  rcases h.2 with ⟨rfl, rfl⟩ | ⟨g, cap, cur, rfl, hg, hw, _⟩
  · exact ⟨_, _, run_append_owned_none (P := Try.prog) w w.heap.size t ty e i m ht hi _ 0 [] ⟨by simp, Or.inl ⟨rfl, rfl⟩⟩, Own.nil _ _ _ _ _, Below.refl _ _⟩
  · have hbb : n * bytes ≤ 1048576 * 1000 := Nat.mul_le_mul hn hb5
    obtain ⟨v', w', h1, h2, h3, _⟩ := run_append_own (P := Try.prog) w w.heap.size t ty e i z m bytes ht hi hz hsize hby hzs hm (.slice none 0 0) 0 [] ⟨by simp, Or.inl ⟨rfl, rfl⟩⟩ ⟨g, 0, none⟩ n cap (vals F (n * m)) (vals_length _ _) (row_cells hr) (vals_one _ _) (by unfold maxLen; omega) (by rw [Nat.zero_add]; omega) (Nat.le_refl _)
    refine ⟨v', w', h1, ?_, ⟨h3.os, h3.tape, h3.output, h3.size, fun i hi => h3.block i hi (by simp [Value.ownBlock])⟩⟩
    simpa [Own] using h2
/-- 'append([]T(nil), row...)' at a step of a region that draws its order. -/
theorem step_copy {ops : Array Oper} {o : Oper} {a : Act} {K : Act → World → Prop} {Q : Exit → Act → World → Prop} {E : Prop} (hgd : o.guard = none) (x : Operand) (t : TypeId) (ho : o.op = .call { callee := .builtin .append, args := #[.const (.slice none 0 0), x], argTypes := #[t, t] })
    (e : TypeId) (i : TypeInfo) (z : Value) (m bytes : Nat) (ht : Try.prog.underlying t = some (.slice e)) (hi : Try.prog.info? e = some i) (hz : i.zero = some z) (hsize : i.size = m) (hby : i.bytes = bytes) (hzs : z.cells.size = m) (hm : 0 < m) (hb5 : bytes ≤ 1000)
    (w : World) (B n : Nat) (F : Nat → Int) (v : Value) (hx : a.eval x = v) (h : Own w B e m n F v) (hn : n ≤ 1048576) (hK : ∀ v' w', Own w' w.heap.size e m n F v' → Below w.heap.size w w' → K (a.put o.dst v') w') :
    if Region.wanted o (yielded ops a.tmps) = true then Oper.wp Try.prog o a w K Q else E := by
  have hw : Region.wanted o (yielded ops a.tmps) = true := by simp [Region.wanted, hgd]
  rw [if_pos hw]
  obtain ⟨v', w', hr, h2, h3⟩ := run_copy t o.type e i z m bytes ht hi hz hsize hby hzs hm hb5 w B n F v h hn
  have hc : a.eval (.const (.slice none 0 0)) = .slice none 0 0 := rfl
  unfold Oper.wp execOp
  simp only [ho, resolve, invoke, builtin, Sem.run_bind, Sem.run_pure, Result.andThen_ok, List.map_toArray, List.map_cons, List.map_nil, hc, hx, hr]
  exact hK v' w' h2 h3
theorem grown_set (w : World) (a : Addr) (u : Value) : w.grownBy (w.setCell a u) (some a.block) := ⟨rfl, rfl, rfl, by simp, fun i _ hne => Below.heap_setCell w a u i (fun e => hne (by rw [e]))⟩
/-- What store stands on behind its copies: the columns; its answer (the first new block); its own store (block b3), of which two rows are done. -/
structure Leaf (w : World) (b oo N : Nat) (m : Int → Int → Option Int) (nl : Nat) (l : Nat → Int) (nw : Nat) (k : Nat → Int) (g : Nat) (u1 u2 : Value) (b3 : Nat) (q0 q1 q2 r1 r2 : Value) (x : World) : Prop where
  cols : Blk3O x b oo (.map (some g)) u1 u2
  pm : PM x g N m
  gl : g < w.heap.size
  res : Blk3 x w.heap.size (.slice none 0 0) (.slice none 0 0) (.slice none 0 0)
  own : Blk3 x b3 q0 q1 q2
  lo : w.heap.size < b3
  bl : b < w.heap.size
  s1 : Own x (w.heap.size + 1) 94 5 nl l r1
  s2 : Own x (w.heap.size + 1) 96 4 nw k r2
  a1 : r1.ownBlock ≠ some b3
  a2 : r2.ownBlock ≠ some b3
  a12 : ∀ q, r1.ownBlock = some q → r2.ownBlock ≠ some q
  below : Below w.heap.size w x
theorem Leaf.later {w : World} {b oo N : Nat} {m : Int → Int → Option Int} {nl : Nat} {l : Nat → Int} {nw : Nat} {k : Nat → Int} {g : Nat} {u1 u2 : Value} {b3 : Nat} {q0 q1 q2 r1 r2 : Value} {x x' : World} (h : Leaf w b oo N m nl l nw k g u1 u2 b3 q0 q1 q2 r1 r2 x) (hb : Below x.heap.size x x') : Leaf w b oo N m nl l nw k g u1 u2 b3 q0 q1 q2 r1 r2 x' :=
  ⟨h.cols.later hb, h.pm.later hb, h.gl, h.res.later hb, h.own.later hb, h.lo, h.bl, h.s1.later hb, h.s2.later hb, h.a1, h.a2, h.a12, h.below.trans (hb.mono h.below.size)⟩
theorem Own.block {w : World} {B : Nat} {e : TypeId} {m n : Nat} {F : Nat → Int} {v : Value} (h : Own w B e m n F v) : ∀ k, v.ownBlock = some k → B ≤ k ∧ k < w.heap.size := own_in h
theorem Own.kept {w w' : World} {B : Nat} {e : TypeId} {m n : Nat} {F : Nat → Int} {v : Value} (h : Own w B e m n F v) (hb : ∀ k, v.ownBlock = some k → w'.heap[k]? = w.heap[k]?) : Own w' B e m n F v := by
  refine ⟨h.1, ?_⟩
  rcases h.2 with q | ⟨g, cap, cur, rfl, hg, hw, r⟩
  · exact Or.inl q
  · exact Or.inr ⟨g, cap, cur, rfl, hg, (hb g rfl).trans hw, r⟩
theorem Leaf.put {w : World} {b oo N : Nat} {m : Int → Int → Option Int} {nl : Nat} {l : Nat → Int} {nw : Nat} {k : Nat → Int} {g : Nat} {u1 u2 : Value} {b3 : Nat} {q0 q1 q2 r1 r2 : Value} {x : World} (h : Leaf w b oo N m nl l nw k g u1 u2 b3 q0 q1 q2 r1 r2 x) (a0 a1 a2 : Value) :
    Leaf w b oo N m nl l nw k g u1 u2 b3 a0 a1 a2 r1 r2 (((x.setCell ⟨b3, 0, none⟩ a0).setCell ⟨b3, 1, none⟩ a1).setCell ⟨b3, 2, none⟩ a2) := by
  have hb : ∀ i, i ≠ b3 → (((x.setCell ⟨b3, 0, none⟩ a0).setCell ⟨b3, 1, none⟩ a1).setCell ⟨b3, 2, none⟩ a2).heap[i]? = x.heap[i]? := fun i hi => (Below.heap_setCell _ _ _ i hi).trans ((Below.heap_setCell _ _ _ i hi).trans (Below.heap_setCell _ _ _ i hi))
  have h1 := h.lo
  have h2 := h.gl
  have h3 := h.bl
  exact ⟨h.cols.kept (hb _ (by omega)), h.pm.kept (hb _ (by omega)), h.gl, h.res.kept (hb _ (by omega)), ((h.own.set0 a0).set1 a1).set2 a2, h.lo, h.bl, h.s1.kept (fun q hq => hb q (fun e => h.a1 (by rw [hq, e]))), h.s2.kept (fun q hq => hb q (fun e => h.a2 (by rw [hq, e]))), h.a1, h.a2, h.a12, ((h.below.setCell (by simp; omega) _).setCell (by simp; omega) _).setCell (by simp; omega) _⟩
/-- x is y but for block b3, block r and what lies from Z on. -/
def Sam (y x : World) (Z b3 r : Nat) : Prop := (x.os = y.os ∧ x.tape = y.tape ∧ x.output = y.output) ∧ Z ≤ x.heap.size ∧ ∀ i, i < Z → i ≠ b3 → i ≠ r → x.heap[i]? = y.heap[i]?
theorem Sam.step {y x x' : World} {Z b3 r : Nat} {row : Option Nat} (h : Sam y x Z b3 r) (hg : x.grownBy x' row) (hq : ∀ q, row = some q → q = b3 ∨ q = r ∨ Z ≤ q) : Sam y x' Z b3 r :=
  ⟨⟨hg.os.trans h.1.1, hg.tape.trans h.1.2.1, hg.output.trans h.1.2.2⟩, Nat.le_trans h.2.1 hg.size, fun i h1 h2 h3 => (hg.block i (Nat.lt_of_lt_of_le h1 h.2.1) (fun e => by have := hq i e.symm; omega)).trans (h.2.2 i h1 h2 h3)⟩
theorem Sam.later {y x x' : World} {Z b3 r : Nat} (h : Sam y x Z b3 r) (hb : Below x.heap.size x x') : Sam y x' Z b3 r :=
  ⟨⟨hb.os.trans h.1.1, hb.tape.trans h.1.2.1, hb.output.trans h.1.2.2⟩, Nat.le_trans h.2.1 hb.size, fun i h1 h2 h3 => (hb.block i (Nat.lt_of_lt_of_le h1 h.2.1)).trans (h.2.2 i h1 h2 h3)⟩
/-- What a round of store's loop stands on. -/
structure Rnd (w y : World) (g r N : Nat) (m : Int → Int → Option Int) (b3 : Nat) (r1 r2 : Value) (left : Int → Int → Bool) (cnt : Nat) (v : Value) (L : List (List Int)) (x : World) : Prop where
  pr : PR x g r N m left cnt
  sam : Sam y x (r + 1) b3 r
  own : Blk3 x b3 v r1 r2
  row : OwnM x (r + 1) 92 3 v L.length L.flatten
  col : Col3 m left L
  len : L.length + cnt ≤ N
theorem Rnd.later {w y x x' : World} {g r N : Nat} {m : Int → Int → Option Int} {b3 : Nat} {r1 r2 : Value} {left : Int → Int → Bool} {cnt : Nat} {v : Value} {L : List (List Int)} (h : Rnd w y g r N m b3 r1 r2 left cnt v L x) (hb : Below x.heap.size x x') : Rnd w y g r N m b3 r1 r2 left cnt v L x' :=
  ⟨h.pr.later hb, h.sam.later hb, h.own.later hb, h.row.later hb, h.col, h.len⟩
/-- The iterator goes on. -/
theorem Rnd.next {w y x x' : World} {g r N : Nat} {m : Int → Int → Option Int} {b3 : Nat} {r1 r2 : Value} {left : Int → Int → Bool} {cnt cnt' : Nat} {v : Value} {L : List (List Int)} (h : Rnd w y g r N m b3 r1 r2 left cnt v L x) (hb : b3 < r) {left' : Int → Int → Bool} (hp : PR x' g r N m left' cnt') (hg : x.grownBy x' (some r)) :
    (PR x' g r N m left' cnt' ∧ Sam y x' (r + 1) b3 r) ∧ Blk3 x' b3 v r1 r2 ∧ OwnM x' (r + 1) 92 3 v L.length L.flatten :=
  ⟨⟨hp, h.sam.step hg (fun q e => by simp at e; omega)⟩, h.own.kept (hg.block b3 h.own.lt (by simp; omega)), h.row.kept (fun i h1 h2 => hg.block i h2 (by simp; omega))⟩
/-- The cell is appended, and the row stored. -/
theorem Rnd.put {w y x x' : World} {g r N : Nat} {m : Int → Int → Option Int} {b3 : Nat} {r1 r2 : Value} {left : Int → Int → Bool} {cnt : Nat} {v v' : Value} {L : List (List Int)} {p q c : Int} (hg3 : g < b3) (hb3 : b3 < r)
    (hp : (PR x g r N m (strike left p q) cnt ∧ Sam y x (r + 1) b3 r) ∧ Blk3 x b3 v r1 r2 ∧ OwnM x (r + 1) 92 3 v L.length L.flatten) (hc : Col3 m left L) (hx : Wf p) (hy : Wf q) (hl : left p q = true) (hm : m p q = some c) (hn : L.length + 1 + cnt ≤ N)
    (ho : x'.ownsRow (r + 1) 92 3 v' (L.length + 1) (L.flatten.map (Value.int .i64) ++ [.int .i64 p, .int .i64 q, .int .i64 c])) (hg : x.grownBy x' v.ownBlock) :
    Rnd w y g r N m b3 r1 r2 (strike left p q) cnt v' (L ++ [[p, q, c]]) (x'.setCell ⟨b3, 0, none⟩ v') := by
  have hv : ∀ j, v.ownBlock = some j → r + 1 ≤ j := fun j hj => (hp.2.2.block j hj).1
  have k1 : some g ≠ v.ownBlock := fun e => by have := hv g e.symm; omega
  have k2 : some r ≠ v.ownBlock := fun e => by have := hv r e.symm; omega
  have k3 : some b3 ≠ v.ownBlock := fun e => by have := hv b3 e.symm; omega
  have ho' : OwnM x' (r + 1) 92 3 v' (L.length + 1) (L ++ [[p, q, c]]).flatten := by
    unfold OwnM
    rw [List.flatten_append, List.map_append]
    exact ho
  refine ⟨(hp.1.1.kept hg k1 k2).kept (grown_set _ _ _) (by simp; omega) (by simp; omega), (hp.1.2.step hg (fun j e => Or.inr (Or.inr (hv j e)))).step (grown_set _ _ _) (fun j e => by simp at e; omega), (hp.2.1.kept (hg.block b3 hp.2.1.lt k3)).set0 v', ?_, hc.step hx hy hl hm, by simp; omega⟩
  rw [List.length_append]
  exact ho'.far (by simp; omega) _
theorem flatten_len {m : Nat} : ∀ (L : List (List Int)), (∀ t ∈ L, t.length = m) → L.flatten.length = L.length * m
  | [], _ => by simp
  | x :: r, h => by
    rw [List.flatten_cons, List.length_append, h x List.mem_cons_self, flatten_len r (fun t ht => h t (List.mem_cons_of_mem _ ht)), List.length_cons, Nat.succ_mul, Nat.add_comm]
theorem apart_mk {w : World} {B0 B1 : Nat} {S : Sto} {u0 u1 u2 : Value} (r0 : Row w B0 3 S.nc S.c u0) (r1 : Row w B1 5 S.nl S.l u1) (h1 : ∀ i j, u0.ownBlock = some i → u1.ownBlock = some j → i ≠ j) (h2 : ∀ i j, u0.ownBlock = some i → u2.ownBlock = some j → i ≠ j) (h3 : ∀ i j, u1.ownBlock = some i → u2.ownBlock = some j → i ≠ j) : ApartD S u0 u1 u2 := by
  have own : ∀ {B m n : Nat} {F : Nat → Int} {u : Value}, Row w B m n F u → 0 < n → ∃ k, u.ownBlock = some k := fun hr hn => by
    obtain ⟨ao, cp, rfl, hr⟩ := hr
    obtain ⟨g, o, rfl, _⟩ := hr hn
    exact ⟨g, rfl⟩
  refine ⟨fun ha hb e => ?_, fun ha hb e => ?_, fun ha hb e => ?_⟩
  · obtain ⟨k, hk⟩ := own r0 ha
    exact h1 k k hk (e ▸ hk) rfl
  · obtain ⟨k, hk⟩ := own r0 ha
    exact h2 k k hk (e ▸ hk) rfl
  · obtain ⟨k, hk⟩ := own r1 ha
    exact h3 k k hk (e ▸ hk) rfl
/-- What the copies find: all of Leaf that was there ahead of them. -/
structure Pre (w : World) (b oo N : Nat) (m : Int → Int → Option Int) (g : Nat) (u1 u2 : Value) (x : World) : Prop where
  cols : Blk3O x b oo (.map (some g)) u1 u2
  pm : PM x g N m
  gl : g < w.heap.size
  res : Blk3 x w.heap.size (.slice none 0 0) (.slice none 0 0) (.slice none 0 0)
  bl : b < w.heap.size
  below : Below w.heap.size w x
theorem Pre.later {w : World} {b oo N : Nat} {m : Int → Int → Option Int} {g : Nat} {u1 u2 : Value} {x x' : World} (h : Pre w b oo N m g u1 u2 x) (hb : Below x.heap.size x x') : Pre w b oo N m g u1 u2 x' :=
  ⟨h.cols.later hb, h.pm.later hb, h.gl, h.res.later hb, h.bl, h.below.trans (hb.mono h.below.size)⟩
theorem Pre.leaf {w : World} {b oo N : Nat} {m : Int → Int → Option Int} {g : Nat} {u1 u2 : Value} {x : World} (h : Pre w b oo N m g u1 u2 x) {b3 : Nat} {q0 q1 q2 : Value} (ho : Blk3 x b3 q0 q1 q2) (hlo : w.heap.size < b3) {nl : Nat} {l : Nat → Int} {nw : Nat} {k : Nat → Int} {r1 r2 : Value} (h1 : Own x (w.heap.size + 1) 94 5 nl l r1) (h2 : Own x (w.heap.size + 1) 96 4 nw k r2)
    (a1 : ∀ j, r1.ownBlock = some j → j ≠ b3) (a2 : ∀ j, r2.ownBlock = some j → j ≠ b3) (a12 : ∀ i j, r1.ownBlock = some i → r2.ownBlock = some j → i ≠ j) : Leaf w b oo N m nl l nw k g u1 u2 b3 q0 q1 q2 r1 r2 x :=
  ⟨h.cols, h.pm, h.gl, h.res, ho, hlo, h.bl, h1, h2, fun e => a1 b3 e rfl, fun e => a2 b3 e rfl, fun q e e' => a12 q q e e' rfl, h.below⟩
theorem size_drew (w : World) (o : Obj) : (w.alloc o).drew.heap.size = w.heap.size + 1 := by simp
/-- What the copying region stands on: the columns' block. -/
def ColBox (w : World) (b oo : Nat) (v0 v1 v2 : Value) (x : World) : Prop := Blk3O x b oo v0 v1 v2 ∧ Below w.heap.size w x
theorem ColBox.later {w x x' : World} {b oo : Nat} {v0 v1 v2 : Value} (h : ColBox w b oo v0 v1 v2 x) (hb : Below x.heap.size x x') : ColBox w b oo v0 v1 v2 x' := ⟨h.1.later hb, h.2.trans (hb.mono h.2.size)⟩
set_option maxRecDepth 100000 in
set_option maxHeartbeats 16000000 in
theorem store_isO (B b oo N : Nat) (m : Int → Int → Option Int) (nl : Nat) (l : Nat → Int) (nw : Nat) (k : Nat → Int) (g : Nat) (u1 u2 : Value) (w : World) (h : ColsO w B b oo N m nl l nw k g u1 u2) (hl : nl ≤ 200) (hw : nw ≤ 200) (hN : N ≤ 400) (nc : Nat) (c : Nat → Int) (hM : MapRow m nc c) :
    Calls Try.prog 38 #[.pointer (some ⟨b, oo, none⟩)] w (NewSto w ⟨nc, c, nl, l, nw, k⟩) := by
  unfold NewSto
  obtain ⟨b1, d1, rfl⟩ := h.2.2.2.2.1.form
  obtain ⟨b2, d2, rfl⟩ := h.2.2.2.2.2.form
  have H1 : Hid (Own w B 94 5 nl l (.slice b1 nl d1)) := h.2.2.2.2.1
  have H2 : Hid (Own w B 96 4 nw k (.slice b2 nw d2)) := h.2.2.2.2.2
  have HM : Hid (MapRow m nc c) := hM
  obtain ⟨i1, hi1, hz01, hz11, hz21⟩ := info_parts infoz_Lock
  obtain ⟨i2, hi2, hz02, hz12, hz22⟩ := info_parts infoz_Write
  obtain ⟨i0, hi, hz0, hz1, hz2⟩ := info_parts info_Cell
  have h0 : ColBox w b oo (.map (some g)) (.slice b1 nl d1) (.slice b2 nw d2) (w.alloc (.cells #[.slice none 0 0, .slice none 0 0, .slice none 0 0] 48)).drew := ⟨h.2.2.1.alloc _, (below_alloc _ _).drew⟩
  have HP0 : Hid (Pre w b oo N m g (.slice b1 nl d1) (.slice b2 nw d2) (w.alloc (.cells #[.slice none 0 0, .slice none 0 0, .slice none 0 0] 48)).drew) := ⟨h.2.2.1.alloc _, h.2.2.2.1.later (w' := (w.alloc (.cells #[.slice none 0 0, .slice none 0 0, .slice none 0 0] 48)).drew) (below_alloc _ _).drew, h.2.2.2.1.lt, Blk3.new w _ _ _ _, h.2.2.1.lt, (below_alloc _ _).drew⟩
  have HPB : Hid (Pre w b oo N m g (.slice b1 nl d1) (.slice b2 nw d2) ((w.alloc (.cells #[.slice none 0 0, .slice none 0 0, .slice none 0 0] 48)).alloc (.cells #[.slice none 0 0, .slice none 0 0, .slice none 0 0] 48)).drew) := ⟨(h.2.2.1.alloc _).alloc _, h.2.2.2.1.later (w' := ((w.alloc (.cells #[.slice none 0 0, .slice none 0 0, .slice none 0 0] 48)).alloc (.cells #[.slice none 0 0, .slice none 0 0, .slice none 0 0] 48)).drew) ((below_alloc _ _).alloc (by simp) _).drew, h.2.2.2.1.lt, (Blk3.new w _ _ _ _).alloc _, h.2.2.1.lt, ((below_alloc _ _).alloc (by simp) _).drew⟩
  have HBB : Hid (Blk3 ((w.alloc (.cells #[.slice none 0 0, .slice none 0 0, .slice none 0 0] 48)).alloc (.cells #[.slice none 0 0, .slice none 0 0, .slice none 0 0] 48)).drew (w.heap.size + 1) (.slice none 0 0) (.slice none 0 0) (.slice none 0 0)) := by have := Blk3.new (w.alloc (.cells #[.slice none 0 0, .slice none 0 0, .slice none 0 0] 48)) (.slice none 0 0) (.slice none 0 0) (.slice none 0 0) 48; rw [World.size_alloc] at this; exact this
  clear h hM
  go_enter Try.func38, Try.ntmps38
  go_wp2_with fail
  rename_i Kr hKr
  have rest : Hid (∀ (b3 : Nat) (e1 : Option Addr) (f1 : Nat) (e2 : Option Addr) (f2 : Nat) (y : World), Leaf w b oo N m nl l nw k g (.slice b1 nl d1) (.slice b2 nw d2) b3 (.slice none 0 0) (.slice e1 nl f1) (.slice e2 nw f2) (.slice e1 nl f1) (.slice e2 nw f2) y → Kr ⟨#[.pointer (some ⟨b, oo, none⟩), undef, .pointer (some ⟨w.heap.size, 0, none⟩), .pointer (some ⟨b3, 0, none⟩), undef, undef, .pointer (some ⟨b, oo, none⟩), .pointer (some ⟨b, oo, none⟩), .pointer (some ⟨b, oo + 1, none⟩), .slice b1 nl d1, .slice e1 nl f1, .pointer (some ⟨b, oo, none⟩), .pointer (some ⟨b, oo, none⟩), .pointer (some ⟨b, oo + 2, none⟩), .slice b2 nw d2, .slice e2 nw f2, .agg #[.slice none 0 0, .slice e1 nl f1, .slice e2 nw f2], undef, undef, undef, undef, undef, undef, undef, undef, undef, undef, undef, undef, undef, undef, undef, undef, undef, undef, undef, undef, undef, undef, undef, undef, undef], []⟩ y) := by
    intro b3 e1 f1 e2 f2 y hLf
    refine hKr _ _ ?_
    clear hKr h0 HP0 HPB HBB H1 H2
    have HLf : Hid (Leaf w b oo N m nl l nw k g (.slice b1 nl d1) (.slice b2 nw d2) b3 (.slice none 0 0) (.slice e1 nl f1) (.slice e2 nw f2) (.slice e1 nl f1) (.slice e2 nw f2) y) := hLf
    have p0 := hLf.cols.1.1
    have hP := hLf.pm
    clear hLf
    go_wp2_with (first | (at_range; refine wpList_prange _ rfl _ rfl g N m rfl hP ?_; intro w0 cnt hcnt hPR hB0 hs0) | go_in)
    go_frame
    have HL0 : Hid (Leaf w b oo N m nl l nw k g (.slice b1 nl d1) (.slice b2 nw d2) b3 (.slice none 0 0) (.slice e1 nl f1) (.slice e2 nw f2) (.slice e1 nl f1) (.slice e2 nw f2) w0) := HLf.out.later hB0
    have hbr : b3 < y.heap.size := HLf.out.own.lt
    obtain ⟨r, hr⟩ : ∃ r, y.heap.size = r := ⟨_, rfl⟩
    rw [hr] at hPR hs0 hbr
    rw [hr]
    have hg3 : g < b3 := by have := HLf.out.gl; have := HLf.out.lo; omega
    have hlo := HLf.out.lo
    have HY : Hid ((∀ q, (Value.slice e1 nl f1).ownBlock = some q → q < r) ∧ ∀ q, (Value.slice e2 nw f2).ownBlock = some q → q < r) := ⟨fun q e => by have := (HLf.out.s1.block q e).2; omega, fun q e => by have := (HLf.out.s2.block q e).2; omega⟩
    clear p0 hP hB0 HLf hr
    go_loopw [5] (fun _ wr => ∃ (left : Int → Int → Bool) (cnt : Nat) (v : Value) (L : List (List Int)), Hid (Rnd w w0 g r N m b3 (.slice e1 nl f1) (.slice e2 nw f2) left cnt v L wr)) (fun _ wr => wr.rangeLeft g r)
    case atStart => exact ⟨_, cnt, .slice none 0 0, [], hPR, ⟨⟨rfl, rfl, rfl⟩, by omega, fun _ _ _ _ => rfl⟩, HL0.out.own, OwnM.nil _ _ _ _, Col3.start m, by simpa using hcnt⟩
    case round =>
      clear hPR hcnt
      obtain ⟨left, cnt1, v, L, HR⟩ := hrel
      obtain ⟨ao, cp, rfl⟩ := HR.out.row.form
      have hpr := HR.out.pr
      have hcl : ∀ x y, Wf x → Wf y → left x y = true → (m x y).isSome = true := fun x y _ _ q => HR.out.col.2.2.2 x y q
      go_wp2_with (first | (at_next; refine wpList_pnext _ rfl _ rfl g r N m left cnt1 rfl hpr hcl ?_ ?_) | go_in)
      · intro hdone
        have hsr := HM.out.sorted HR.out.col hdone
        obtain ⟨rfl, hsr2⟩ := hsr
        have HSR : Hid (∀ d : Array (List Int), d.size = L.length → d.toList.Perm (rowD 3 L.length (fun p => L.flatten.getD p 0)).toList → SortedIn (ltOf (cf2 (fun x => x.getD 0 0) (fun x => x.getD 1 0))) 0 L.length d → ∀ t, t < L.length * 3 → rowF 3 d t = c t) := hsr2
        have HO : Hid (Row wr (r + 1) 3 L.length (fun p => L.flatten.getD p 0) (.slice ao L.length cp) ∧ Free wr (L.length * 3) (.slice ao L.length cp)) := (HR.out.row.own (flatten_len L HR.out.col.len)).row
        have t0 := HR.out.own.1.1
        have hlN : L.length ≤ 400 := by have := HR.out.len; omega
        clear hdone hpr hcl hsr2
        go_wp2_with fail
        refine (sortCell_any (r + 1) L.length _ _ _ HO.out.1 HO.out.2 (by omega)).mono ?_
        rintro e w5 ⟨rfl, d, hd1, ⟨hd2, hd3⟩, hrow5, hg5⟩
        have hturn : ∀ q, turn L.length (.slice ao L.length cp) = some q → r + 1 ≤ q := turn_off (fun _ kk hk => (HR.out.row.block kk hk).1)
        have hsam := HR.out.sam.step hg5 (fun q e => Or.inr (Or.inr (hturn q e)))
        have hB5 := HR.out.own.kept (hg5.block b3 HR.out.own.lt (fun e => by have := hturn b3 e.symm; omega))
        have hres := HL0.out.res.kept (hsam.2.2 w.heap.size (by omega) (by omega) (by omega))
        have hk1 := HL0.out.s1.kept (fun q hq => hsam.2.2 q (by have := HY.out.1 q hq; omega) (fun e => HL0.out.a1 (by rw [hq, e])) (by have := HY.out.1 q hq; omega))
        have hk2 := HL0.out.s2.kept (fun q hq => hsam.2.2 q (by have := HY.out.2 q hq; omega) (fun e => HL0.out.a2 (by rw [hq, e])) (by have := HY.out.2 q hq; omega))
        have HBW : Hid (Below w.heap.size w w5) := ⟨hsam.1.1.trans HL0.out.below.os, hsam.1.2.1.trans HL0.out.below.tape, hsam.1.2.2.trans HL0.out.below.output, by have := hsam.2.1; omega, fun i hi => (hsam.2.2 i (by omega) (by omega) (by omega)).trans (HL0.out.below.block i hi)⟩
        have HK : Hid ((Row w5 (r + 1) 3 L.length c (.slice ao L.length cp) ∧ Free w5 (L.length * 3) (.slice ao L.length cp)) ∧ (Own w5 (w.heap.size + 1) 94 5 nl l (.slice e1 nl f1) ∧ Own w5 (w.heap.size + 1) 96 4 nw k (.slice e2 nw f2))) := ⟨⟨hrow5.1.congr (HSR.out d hd1 hd2 hd3), hrow5.2⟩, hk1, hk2⟩
        have HAP : Hid (ApartD ⟨L.length, c, nl, l, nw, k⟩ (.slice ao L.length cp) (.slice e1 nl f1) (.slice e2 nw f2)) := apart_mk HK.out.1.1 hk1.row.1 (fun i j hi hj => by have := (HR.out.row.block i hi).1; have := HY.out.1 j hj; omega) (fun i j hi hj => by have := (HR.out.row.block i hi).1; have := HY.out.2 j hj; omega) (fun i j hi hj e => HL0.out.a12 i hi (by rw [hj, e]))
        obtain ⟨⟨y0, y1, y2⟩, _⟩ := hB5
        obtain ⟨⟨s0, s1, s2⟩, g0, g1, g2⟩ := hres
        have hlw : w.heap.size < w.heap.size + 1 := Nat.lt_succ_self _
        have hlr : w.heap.size < r + 1 := by omega
        clear t0 hd1 hd2 hd3 hrow5 hg5 hturn hsam hk1 hk2 HSR HO HR
        go_wp2
        exact bodyPost_ret (v := .agg #[.slice ao L.length cp, .slice e1 nl f1, .slice e2 nw f2]) (by simp [results, Try.results38, go_sem, s0, s1, s2]) rfl ⟨ao, cp, e1, f1, e2, f2, rfl, ⟨⟨(((HK.out.1.1.far (Or.inl hlr) _).far (Or.inl hlr) _).far (Or.inl hlr) _).mono (by omega), (((HK.out.2.1.row.1.far (Or.inl hlw) _).far (Or.inl hlw) _).far (Or.inl hlw) _).mono (by omega), (((HK.out.2.2.row.1.far (Or.inl hlw) _).far (Or.inl hlw) _).far (Or.inl hlw) _).mono (by omega)⟩, ⟨((HK.out.1.2.far _ _).far _ _).far _ _, ((HK.out.2.1.row.2.far _ _).far _ _).far _ _, ((HK.out.2.2.row.2.far _ _).far _ _).far _ _⟩, HAP.out⟩, ((HBW.out.setCell (Nat.le_refl _) _).setCell (Nat.le_refl _) _).setCell (Nat.le_refl _) _⟩
      · intro p q cc w1 cnt2 hx hy hc hlf hm hPR1 hlt hg1 hs1 hen
        have HN := HR.out.next hbr hPR1 hg1
        have hcl1 := HR.out.col
        have hlen : L.length + 1 + cnt2 ≤ N := by have := HR.out.len; omega
        have HLT : Hid (cnt2 < wr.rangeLeft g r) := by unfold Hid; rw [HR.out.pr.left_eq]; exact hlt
        have HX : Hid (((Wf p ∧ Wf q) ∧ left p q = true ∧ m p q = some cc) ∧ Col3 m left L) := ⟨⟨⟨hx, hy⟩, hlf, hm⟩, hcl1⟩
        have t0 := HN.2.1.1.1
        have zb : b3 < w1.heap.size := HN.2.1.lt
        have hbl := (below_alloc w1 (.cells #[.int .i64 p, .int .i64 q] 106)).alloc (by simp) (.cells #[.int .i64 p, .int .i64 q, .int .i64 cc] 92)
        have HN2 : Hid ((PR ((w1.alloc (.cells #[.int .i64 p, .int .i64 q] 106)).alloc (.cells #[.int .i64 p, .int .i64 q, .int .i64 cc] 92)) g r N m (strike left p q) cnt2 ∧ Sam w0 ((w1.alloc (.cells #[.int .i64 p, .int .i64 q] 106)).alloc (.cells #[.int .i64 p, .int .i64 q, .int .i64 cc] 92)) (r + 1) b3 r) ∧ Blk3 ((w1.alloc (.cells #[.int .i64 p, .int .i64 q] 106)).alloc (.cells #[.int .i64 p, .int .i64 q, .int .i64 cc] 92)) b3 (.slice ao L.length cp) (.slice e1 nl f1) (.slice e2 nw f2) ∧ OwnM ((w1.alloc (.cells #[.int .i64 p, .int .i64 q] 106)).alloc (.cells #[.int .i64 p, .int .i64 q, .int .i64 cc] 92)) (r + 1) 92 3 (.slice ao L.length cp) L.length L.flatten) := ⟨⟨HN.1.1.later hbl, HN.1.2.later hbl⟩, HN.2.1.later hbl, HN.2.2.later hbl⟩
        have hown := HN2.out.2.2
        clear hpr hcl HR hPR1 hg1 hlt hs1 HN hcl1 hx hy hlf hm hbl hc
        go_wp2_with (at_builtin; refine wpList_append_own _ rfl _ _ 44 rfl (r + 1) 92 i0 (.agg #[.int .i64 0, .int .i64 0, .int .i64 0]) 3 24 Try.underlying44 hi hz0 hz1 hz2 rfl (by decide) _ _ _ rfl hown ⟨_, 0, none⟩ 1 1 [.int .i64 p, .int .i64 q, .int .i64 cc] rfl rfl ?c1 ?c2 ?c3 ?c4 ?c5 ?_)
        case c1 =>
          intro j u hj
          match j, hj with
          | 0, hj => simp at hj; subst hj; simp [Addr.add]
          | 1, hj => simp at hj; subst hj; simp [Addr.add]
          | 2, hj => simp at hj; subst hj; simp [Addr.add]
        case c2 =>
          intro u hu
          simp at hu
          rcases hu with rfl | rfl | rfl <;> rfl
        case c3 => unfold maxLen; omega
        case c4 => omega
        case c5 => exact HN2.out.1.2.2.1
        intro v' w2 ho hg2 _
        rw [← List.map_flatten] at ho
        obtain ⟨ao', cp', rfl⟩ := (show OwnM w2 (r + 1) 92 3 v' (L.length + 1) (L.flatten ++ [p, q, cc]) from by unfold OwnM; rw [List.map_append]; exact ho).form
        have hvb : ∀ j, (Value.slice ao L.length cp).ownBlock = some j → r + 1 ≤ j := fun j hj => (HN2.out.2.2.block j hj).1
        have hB3 := HN2.out.2.1.kept (hg2.block b3 HN2.out.2.1.lt (fun e => by have := hvb b3 e.symm; omega))
        have HRn : Hid (Rnd w w0 g r N m b3 (.slice e1 nl f1) (.slice e2 nw f2) (strike left p q) cnt2 (.slice ao' (L.length + 1) cp') (L ++ [[p, q, cc]]) (w2.setCell ⟨b3, 0, none⟩ (.slice ao' (L.length + 1) cp'))) := Rnd.put hg3 hbr HN2.out HX.out.2 HX.out.1.1.1 HX.out.1.1.2 HX.out.1.2.1 HX.out.1.2.2 hlen ho hg2
        obtain ⟨⟨y0, _, _⟩, z0, _, _⟩ := hB3
        clear ho hg2 hvb hown HN2 t0 HX
        go_wp2
        go_roundw
        case rel => exact ⟨_, _, _, _, HRn⟩
        case measure => rw [HRn.out.pr.left_eq]; exact HLT.out
  refine wp_region_held_drew (S := ColBox w b oo (.map (some g)) (.slice b1 nl d1) (.slice b2 nw d2)) (by kernel_rfl) h0 (fun hS => ?_)
  clear h0
  refine tkH 0 ?_ hS (fun wx hx => ?_) ?_; rotate_left
  · obtain ⟨⟨⟨hx0, hx1, hx2⟩, _⟩, _⟩ := hx; go_simp; try with_reducible rfl
  refine tkH 1 ?_ hS (fun wx hx => ?_) ?_; rotate_left
  · obtain ⟨⟨⟨hx0, hx1, hx2⟩, _⟩, _⟩ := hx; go_simp; try with_reducible rfl
  refine tkH 2 ?_ hS (fun wx hx => ?_) ?_; rotate_left
  · obtain ⟨⟨⟨hx0, hx1, hx2⟩, _⟩, _⟩ := hx; go_simp; try with_reducible rfl
  refine tkH 3 ?_ hS (fun wx hx => ?_) ?_; rotate_left
  · obtain ⟨⟨⟨hx0, hx1, hx2⟩, _⟩, _⟩ := hx; go_simp; try with_reducible rfl
  refine tkH 5 ?_ hS (fun wx hx => ?_) ?_; rotate_left
  · obtain ⟨⟨⟨hx0, hx1, hx2⟩, _⟩, _⟩ := hx; go_simp; try with_reducible rfl
  refine tkH 6 ?_ hS (fun wx hx => ?_) ?_; rotate_left
  · obtain ⟨⟨⟨hx0, hx1, hx2⟩, _⟩, _⟩ := hx; go_simp; try with_reducible rfl
  refine tkH 7 ?_ hS (fun wx hx => ?_) ?_; rotate_left
  · obtain ⟨⟨⟨hx0, hx1, hx2⟩, _⟩, _⟩ := hx; go_simp; try with_reducible rfl
  refine tkH 8 ?_ hS (fun wx hx => ?_) ?_; rotate_left
  · obtain ⟨⟨⟨hx0, hx1, hx2⟩, _⟩, _⟩ := hx; go_simp; try with_reducible rfl
  refine wpAnyH_ready (rs := [4, 11]) (by kernel_rfl) (by simp) ?_
  refine AllReadyH.cons rfl (fun K hK => ?_) (AllReadyH.cons rfl (fun K hK => ?_) AllReadyH.nil)
  · refine step_copy (by rfl) _ 45 (by rfl) 94 i1 (.agg #[.int .i64 0, .int .i64 0, .int .i64 0, .int .i64 0, .int .i64 0]) 5 40 Try.underlying45 hi1 hz01 hz11 hz21 rfl (by omega) (by omega) _ B nl l (.slice b1 nl d1) (by rfl) (H1.out.later (w' := (w.alloc (.cells #[.slice none 0 0, .slice none 0 0, .slice none 0 0] 48)).drew) (below_alloc _ _).drew) (by omega) ?_
    intro r1 wA ho1 hb1
    obtain ⟨e1, f1, rfl⟩ := ho1.form
    have hS' := hS.later hb1
    have HP1 : Hid (Pre w b oo N m g (.slice b1 nl d1) (.slice b2 nw d2) wA) := HP0.out.later hb1
    have HO1 : Hid (Own wA (w.heap.size + 1) 94 5 nl l (.slice e1 nl f1)) := by rw [size_drew] at ho1; exact ho1
    have zA : Hid (w.heap.size + 1 ≤ wA.heap.size) := by have := hb1.size; rw [size_drew] at this; exact this
    clear ho1 hb1
    go_simp
    refine hK.out _ _ hS' (fun hS => ?_)
    clear hK K hS'
    refine wpAnyH_ready (rs := [9, 11]) (by kernel_rfl) (by simp) ?_
    refine AllReadyH.cons rfl (fun K hK => ?_) (AllReadyH.cons rfl (fun K hK => ?_) AllReadyH.nil)
    · refine step_copy (by rfl) _ 46 (by rfl) 96 i2 (.agg #[.int .i64 0, .int .i64 0, .int .i64 0, .int .i64 0]) 4 32 Try.underlying46 hi2 hz02 hz12 hz22 rfl (by omega) (by omega) _ B nw k (.slice b2 nw d2) (by rfl) (H2.out.later HP1.out.below) (by omega) ?_
      intro r2 wB ho2 hb2
      obtain ⟨e2, f2, rfl⟩ := ho2.form
      have hS' := hS.later hb2
      have HP2 : Hid (Pre w b oo N m g (.slice b1 nl d1) (.slice b2 nw d2) wB) := HP1.out.later hb2
      have HLf : Hid (Leaf w b oo N m nl l nw k g (.slice b1 nl d1) (.slice b2 nw d2) wB.heap.size (.slice none 0 0) (.slice e1 nl f1) (.slice e2 nw f2) (.slice e1 nl f1) (.slice e2 nw f2) (wB.alloc (.cells #[.slice none 0 0, .slice e1 nl f1, .slice e2 nw f2] 48))) :=
        (HP2.out.later (below_alloc wB (.cells #[.slice none 0 0, .slice e1 nl f1, .slice e2 nw f2] 48))).leaf (Blk3.new wB _ _ _ _) (by have := zA.out; have := hb2.size; omega) ((HO1.out.later hb2).alloc _) ((ho2.mono zA.out).alloc _) (fun j hj => by have := HO1.out.block j hj; have := hb2.size; omega) (fun j hj => by have := ho2.block j hj; omega) (fun i j hi hj => by have := HO1.out.block i hi; have := ho2.block j hj; omega)
      clear ho2 hb2 HP1 HO1 zA
      go_simp
      refine hK.out _ _ hS' (fun hS => ?_)
      clear hK K hS'
      refine tkH 10 ?_ hS (fun wx hx => ?_) ?_; rotate_left
      · obtain ⟨⟨⟨hx0, hx1, hx2⟩, _⟩, _⟩ := hx; go_simp; try with_reducible rfl
      refine rdH 11 (fun K hK => ?_)
      go_simp
      refine hK.out _ _ (hS.later (below_alloc _ _)) (fun hS => ?_)
      clear hK K
      refine rdH 12 (fun K hK => ?_)
      go_simp
      refine hK.out _ _ ⟨HLf.out.cols, HLf.out.below⟩ (fun hS => ?_)
      clear hK K hS HP2
      refine wpAnyH_done (by kernel_rfl) ?_ _
      go_simp
      exact rest.out _ _ _ _ _ _ HLf.out
    · have hS' := hS.later (below_alloc wA (.cells #[.slice none 0 0, .slice none 0 0, .slice none 0 0] 48))
      have HP2 : Hid (Pre w b oo N m g (.slice b1 nl d1) (.slice b2 nw d2) (wA.alloc (.cells #[.slice none 0 0, .slice none 0 0, .slice none 0 0] 48))) := HP1.out.later (below_alloc wA (.cells #[.slice none 0 0, .slice none 0 0, .slice none 0 0] 48))
      have HO2 : Hid (Own (wA.alloc (.cells #[.slice none 0 0, .slice none 0 0, .slice none 0 0] 48)) (w.heap.size + 1) 94 5 nl l (.slice e1 nl f1)) := HO1.out.alloc _
      go_simp
      refine hK.out _ _ hS' (fun hS => ?_)
      clear hK K hS'
      refine rdH 9 (fun K hK => ?_)
      refine step_copy (by rfl) _ 46 (by rfl) 96 i2 (.agg #[.int .i64 0, .int .i64 0, .int .i64 0, .int .i64 0]) 4 32 Try.underlying46 hi2 hz02 hz12 hz22 rfl (by omega) (by omega) _ B nw k (.slice b2 nw d2) (by rfl) (H2.out.later HP2.out.below) (by omega) ?_
      intro r2 wC ho2 hb2
      obtain ⟨e2, f2, rfl⟩ := ho2.form
      have hS' := hS.later hb2
      rw [World.size_alloc] at ho2
      have HLf : Hid (Leaf w b oo N m nl l nw k g (.slice b1 nl d1) (.slice b2 nw d2) wA.heap.size (.slice none 0 0) (.slice none 0 0) (.slice none 0 0) (.slice e1 nl f1) (.slice e2 nw f2) wC) :=
        (HP2.out.later hb2).leaf ((Blk3.new wA _ _ _ _).later hb2) (by have := zA.out; omega) (HO2.out.later hb2) (ho2.mono (by have := zA.out; omega)) (fun j hj => by have := HO1.out.block j hj; omega) (fun j hj => by have := ho2.block j hj; omega) (fun i j hi hj => by have := HO1.out.block i hi; have := ho2.block j hj; omega)
      clear ho2 hb2 HP1 HO1 zA HP2 HO2
      go_simp
      refine hK.out _ _ hS' (fun hS => ?_)
      clear hK K hS'
      refine tkH 10 ?_ hS (fun wx hx => ?_) ?_; rotate_left
      · obtain ⟨⟨⟨hx0, hx1, hx2⟩, _⟩, _⟩ := hx; go_simp; try with_reducible rfl
      refine rdH 12 (fun K hK => ?_)
      obtain ⟨⟨y0, y1, y2⟩, z0, z1, z2⟩ := HLf.out.own
      have HLg : Hid (Leaf w b oo N m nl l nw k g (.slice b1 nl d1) (.slice b2 nw d2) wA.heap.size (.slice none 0 0) (.slice e1 nl f1) (.slice e2 nw f2) (.slice e1 nl f1) (.slice e2 nw f2) (((wC.setCell ⟨wA.heap.size, 0, none⟩ (.slice none 0 0)).setCell ⟨wA.heap.size, 1, none⟩ (.slice e1 nl f1)).setCell ⟨wA.heap.size, 2, none⟩ (.slice e2 nw f2))) := HLf.out.put _ _ _
      go_simp
      refine hK.out _ _ ⟨HLg.out.cols, HLg.out.below⟩ (fun hS => ?_)
      clear hK K hS
      refine wpAnyH_done (by kernel_rfl) ?_ _
      go_simp
      exact rest.out _ _ _ _ _ _ HLg.out
  · have hS' : ColBox w b oo (.map (some g)) (.slice b1 nl d1) (.slice b2 nw d2) ((w.alloc (.cells #[.slice none 0 0, .slice none 0 0, .slice none 0 0] 48)).alloc (.cells #[.slice none 0 0, .slice none 0 0, .slice none 0 0] 48)).drew := ⟨HPB.out.cols, HPB.out.below⟩
    go_simp
    refine hK.out _ _ hS' (fun hS => ?_)
    clear hK K hS'
    refine rdH 4 (fun K hK => ?_)
    refine step_copy (by rfl) _ 45 (by rfl) 94 i1 (.agg #[.int .i64 0, .int .i64 0, .int .i64 0, .int .i64 0, .int .i64 0]) 5 40 Try.underlying45 hi1 hz01 hz11 hz21 rfl (by omega) (by omega) ((w.alloc (.cells #[.slice none 0 0, .slice none 0 0, .slice none 0 0] 48)).alloc (.cells #[.slice none 0 0, .slice none 0 0, .slice none 0 0] 48)).drew B nl l (.slice b1 nl d1) (by rfl) (H1.out.later HPB.out.below) (by omega) ?_
    intro r1 wB ho1 hb1
    obtain ⟨e1, f1, rfl⟩ := ho1.form
    have hS' := hS.later hb1
    have HP1 : Hid (Pre w b oo N m g (.slice b1 nl d1) (.slice b2 nw d2) wB) := HPB.out.later hb1
    have hX : (((w.alloc (.cells #[.slice none 0 0, .slice none 0 0, .slice none 0 0] 48)).alloc (.cells #[.slice none 0 0, .slice none 0 0, .slice none 0 0] 48)).drew).heap.size = w.heap.size + 2 := by simp
    rw [hX] at ho1
    have HO1 : Hid (Own wB (w.heap.size + 2) 94 5 nl l (.slice e1 nl f1)) := ho1
    have zB : Hid (w.heap.size + 2 ≤ wB.heap.size) := by have := hb1.size; rw [hX] at this; exact this
    have HB1 : Hid (Blk3 wB (w.heap.size + 1) (.slice none 0 0) (.slice none 0 0) (.slice none 0 0)) := HBB.out.later (x := ((w.alloc (.cells #[.slice none 0 0, .slice none 0 0, .slice none 0 0] 48)).alloc (.cells #[.slice none 0 0, .slice none 0 0, .slice none 0 0] 48)).drew) hb1
    clear ho1 hb1 hX
    go_simp
    refine hK.out _ _ hS' (fun hS => ?_)
    clear hK K hS'
    refine rdH 9 (fun K hK => ?_)
    refine step_copy (by rfl) _ 46 (by rfl) 96 i2 (.agg #[.int .i64 0, .int .i64 0, .int .i64 0, .int .i64 0]) 4 32 Try.underlying46 hi2 hz02 hz12 hz22 rfl (by omega) (by omega) _ B nw k (.slice b2 nw d2) (by rfl) (H2.out.later HP1.out.below) (by omega) ?_
    intro r2 wC ho2 hb2
    obtain ⟨e2, f2, rfl⟩ := ho2.form
    have hS' := hS.later hb2
    have HLf : Hid (Leaf w b oo N m nl l nw k g (.slice b1 nl d1) (.slice b2 nw d2) (w.heap.size + 1) (.slice none 0 0) (.slice none 0 0) (.slice none 0 0) (.slice e1 nl f1) (.slice e2 nw f2) wC) :=
      (HP1.out.later hb2).leaf (HB1.out.later hb2) (Nat.lt_succ_self _) ((HO1.out.later hb2).mono (by omega)) (ho2.mono (by have := zB.out; omega)) (fun j hj => by have := HO1.out.block j hj; omega) (fun j hj => by have := ho2.block j hj; have := zB.out; omega) (fun i j hi hj => by have := HO1.out.block i hi; have := ho2.block j hj; omega)
    clear ho2 hb2 HP1 HO1 zB HB1
    go_simp
    refine hK.out _ _ hS' (fun hS => ?_)
    clear hK K hS'
    refine tkH 10 ?_ hS (fun wx hx => ?_) ?_; rotate_left
    · obtain ⟨⟨⟨hx0, hx1, hx2⟩, _⟩, _⟩ := hx; go_simp; try with_reducible rfl
    refine rdH 12 (fun K hK => ?_)
    obtain ⟨⟨y0, y1, y2⟩, z0, z1, z2⟩ := HLf.out.own
    have HLg : Hid (Leaf w b oo N m nl l nw k g (.slice b1 nl d1) (.slice b2 nw d2) (w.heap.size + 1) (.slice none 0 0) (.slice e1 nl f1) (.slice e2 nw f2) (.slice e1 nl f1) (.slice e2 nw f2) (((wC.setCell ⟨w.heap.size + 1, 0, none⟩ (.slice none 0 0)).setCell ⟨w.heap.size + 1, 1, none⟩ (.slice e1 nl f1)).setCell ⟨w.heap.size + 1, 2, none⟩ (.slice e2 nw f2))) := HLf.out.put _ _ _
    go_simp
    refine hK.out _ _ ⟨HLg.out.cols, HLg.out.below⟩ (fun hS => ?_)
    clear hK K hS
    refine wpAnyH_done (by kernel_rfl) ?_ _
    go_simp
    exact rest.out _ _ _ _ _ _ HLg.out
end Go.Proofs.Ytdfikaehipdjaaa

namespace Go.Proofs.Ytdfikaehipdjaaa
section
open Go.RowKit
def markT (S : Nat → Sto) (i : Nat) : Nat := (S i).nc * 3 + (S i).nl * 5 + (S i).nw * 4
/-- A store numbered from k on. -/
def markK (S : Sto) (k : Int) : Sto := ⟨S.nc, fun p => k + (p : Nat), S.nl, fun p => k + S.nc * 3 + (p : Nat), S.nw, fun p => k + S.nc * 3 + S.nl * 5 + (p : Nat)⟩
theorem markT_le (S : Nat → Sto) : ∀ n, sumN (markT S) n ≤ 5 * sumN (sizeT S) n
  | 0 => by simp [sumN]
  | n + 1 => by
    have := markT_le S n
    show sumN (markT S) n + markT S n ≤ 5 * (sumN (sizeT S) n + sizeT S n)
    unfold markT sizeT at *
    omega
theorem sum_mono (f : Nat → Nat) {k n : Nat} (h : k ≤ n) : sumN f k ≤ sumN f n := by
  induction n with
  | zero => obtain rfl : k = 0 := by omega
            exact Nat.le_refl _
  | succ n ih =>
    by_cases q : k = n + 1
    · subst q; exact Nat.le_refl _
    · exact Nat.le_trans (ih (by omega)) (Nat.le_add_right _ _)
theorem Fine.up {w : World} {z : Nat → Nat} {n : Nat} {S : Nat → Sto} {U : Nat → Nat → Value} (h : Fine w z n S U) : ∀ j, j ≤ n → ∀ i, i ≤ j → z i ≤ z j
  | 0, _, i, hi => by obtain rfl : i = 0 := by omega
                      exact Nat.le_refl _
  | j + 1, hj, i, hi => by
    by_cases q : i = j + 1
    · subst q; exact Nat.le_refl _
    · exact Nat.le_trans (h.up j (by omega) i (by omega)) (h j (by omega)).2.2
/-- One store is turned inside its own blocks: the others stand. -/
theorem Fine.turn1 {x x' : World} {z : Nat → Nat} {n : Nat} {S : Nat → Sto} {U : Nat → Nat → Value} (h : Fine x z n S U) {k : Nat} (hk : k < n) (hw : Within (z k) (z (k + 1)) x x') (T : Sto) (hsz : T.nc = (S k).nc ∧ T.nl = (S k).nl ∧ T.nw = (S k).nw) (hst : St x' (z k) T (U k 0) (U k 1) (U k 2) ∧ FreeS x' T (U k 0) (U k 1) (U k 2)) :
    Fine x' z n (fun i => if i = k then T else S i) U := fun i hi => by
  obtain ⟨⟨h1, h2, h3⟩, h4, h5⟩ := h i hi
  by_cases q : i = k
  · subst q
    simp only [if_true]
    obtain ⟨e0, e1, e2⟩ := hsz
    refine ⟨⟨hst.1, hst.2, ?_⟩, ?_, h5⟩
    · unfold ApartD at h3 ⊢
      rw [e0, e1, e2]
      exact h3
    · unfold OwnIn at h4 ⊢
      rw [e0, e1, e2]
      exact h4
  · simp only [if_neg q]
    have ho : OwnIn (S i) (U i 0) (U i 1) (U i 2) (fun j => j < z k ∨ z (k + 1) ≤ j) := h4.mono (fun j hj => by
      rcases Nat.lt_or_ge i k with c | c
      · have := h.up k (by omega) (i + 1) (by omega)
        exact Or.inl (by omega)
      · have := h.up i (by omega) (k + 1) (by omega)
        exact Or.inr (by omega))
    exact ⟨⟨h1.within hw ho, h2.within h1 hw ho, h3⟩, h4, h5⟩
theorem FillS.within {w w' : World} {g n k B E : Nat} {U : Nat → Nat → Value} (h : FillS w g n k U) (hw : Within B E w w') (hg : g < B ∨ E ≤ g) : FillS w' g n k U := h.kept hw.size (hw.block g h.1 hg)
theorem Fine.congr {w : World} {z : Nat → Nat} {n : Nat} {S T : Nat → Sto} {U : Nat → Nat → Value} (h : Fine w z n S U) (e : ∀ i, i < n → S i = T i) : Fine w z n T U := fun i hi => by rw [← e i hi]; exact h i hi
def mixS (S : Nat → Sto) (k0 : Int) (k i : Nat) : Sto := if i < k then markK (S i) (k0 + (sumN (markT S) i : Nat)) else S i
theorem mix_same (S : Nat → Sto) (k0 : Int) (k i : Nat) : (mixS S k0 k i).nc = (S i).nc ∧ (mixS S k0 k i).nl = (S i).nl ∧ (mixS S k0 k i).nw = (S i).nw := by
  unfold mixS
  split <;> exact ⟨rfl, rfl, rfl⟩
end

section
open Go.RowKit
section
/-- No list of a store lies in block q. -/
def Spare (n : Nat) (S : Nat → Sto) (U : Nat → Nat → Value) (q : Nat) : Prop := ∀ i, i < n → OwnIn (S i) (U i 0) (U i 1) (U i 2) (fun p => p ≠ q)
/-- Nothing is turned but the stores' own lists. -/
structure KeptS (n : Nat) (S : Nat → Sto) (U : Nat → Nat → Value) (w w' : World) : Prop where
  os : w'.os = w.os
  tape : w'.tape = w.tape
  output : w'.output = w.output
  size : w.heap.size ≤ w'.heap.size
  block : ∀ q, q < w.heap.size → Spare n S U q → w'.heap[q]? = w.heap[q]?
theorem KeptS.refl {n : Nat} {S : Nat → Sto} {U : Nat → Nat → Value} (w : World) : KeptS n S U w w := ⟨rfl, rfl, rfl, Nat.le_refl _, fun _ _ _ => rfl⟩
theorem KeptS.trans {n : Nat} {S : Nat → Sto} {U : Nat → Nat → Value} {a b c : World} (h : KeptS n S U a b) (k : KeptS n S U b c) : KeptS n S U a c :=
  ⟨k.os.trans h.os, k.tape.trans h.tape, k.output.trans h.output, Nat.le_trans h.size k.size, fun q hq hs => (k.block q (Nat.lt_of_lt_of_le hq h.size) hs).trans (h.block q hq hs)⟩
theorem KeptS.of {n : Nat} {S : Nat → Sto} {U : Nat → Nat → Value} {w w' : World} {row : Option Nat} (h : w.grownBy w' row) (hr : ∀ q, Spare n S U q → row ≠ some q) : KeptS n S U w w' :=
  ⟨h.os, h.tape, h.output, h.size, fun q hq hs => h.block q hq (fun e => hr q hs e.symm)⟩
set_option maxRecDepth 100000 in
set_option maxHeartbeats 8000000 in
theorem markStoreS_pos (n cp g : Nat) (S : Nat → Sto) (U : Nat → Nat → Value) (z : Nat → Nat) (k0 : Int) (w : World) (hF : FillS w g n n U) (hf : Fine w z n S U) (hg : Spare n S U g) (hs : ∀ i, i < n → SmallS (S i)) (ht : sumN (sizeT S) n ≤ 1048576) (h0 : 0 ≤ k0) (h1 : k0 ≤ 10000000) (hn : n ≤ 1048576) :
    Calls Try.prog 44 #[.slice (some ⟨g, 0, none⟩) n cp, .int .i64 k0] w fun e w' => e = .returned (.int .i64 (k0 + (sumN (markT S) n : Nat))) ∧ (FillS w' g n n U ∧ Fine w' z n (mixS S k0 n) U) ∧ KeptS n S U w w' := by
  have HF : Hid (FillS w g n n U ∧ Fine w z n S U ∧ Spare n S U g) := ⟨hF, hf, hg⟩
  have HN : Hid ((∀ i, i < n → SmallS (S i)) ∧ ∀ k, k ≤ n → sumN (markT S) k ≤ 5242880) := ⟨hs, fun k hk => by have := sum_mono (markT S) hk; have := markT_le S n; omega⟩
  clear hF hf hg hs ht
  go_enter Try.func44, Try.ntmps44
  go_wp2
  go_loopw [1, 5] (fun j i wr => ∃ (k c : Nat), k ≤ n ∧ j = .int .i64 (k0 + (c : Nat)) ∧ i = .int .i64 k ∧ Hid (c = sumN (markT S) k) ∧ Hid (KeptS n S U w wr ∧ FillS wr g n n U ∧ Fine wr z n (mixS S k0 k) U)) (fun _ i _ => n - (intOf i).toNat)
  case atStart => exact ⟨0, 0, Nat.zero_le _, by simp, rfl, rfl, KeptS.refl _, HF.out.1, HF.out.2.1.congr (fun i _ => by unfold mixS; rw [if_neg (Nat.not_lt_zero i)])⟩
  case round =>
    obtain ⟨k, c, hk, rfl, rfl, HC, HR⟩ := hrel
    have hcb : c ≤ 5242880 := by rw [HC.out]; exact HN.out.2 k hk
    by_cases hlt : k < n
    · obtain ⟨b0, b1, b2⟩ := HR.out.2.1.2.2 k hlt
      obtain ⟨⟨sk, fk, ak⟩, ok, uk⟩ := HR.out.2.2 k hlt
      have emx : mixS S k0 k k = S k := by unfold mixS; rw [if_neg (Nat.lt_irrefl k)]
      rw [emx] at sk fk ak ok
      obtain ⟨i0, d0, i1, d1, i2, d2, e0, e1, e2⟩ := sk.form
      obtain ⟨n0, hn0⟩ : ∃ x, (S k).nc = x := ⟨_, rfl⟩
      obtain ⟨n1, hn1⟩ : ∃ x, (S k).nl = x := ⟨_, rfl⟩
      obtain ⟨n2, hn2⟩ : ∃ x, (S k).nw = x := ⟨_, rfl⟩
      rw [e0, hn0] at b0
      rw [e1, hn1] at b1
      rw [e2, hn2] at b2
      have EU : Hid (U k 0 = .slice i0 n0 d0 ∧ U k 1 = .slice i1 n1 d1 ∧ U k 2 = .slice i2 n2 d2) := ⟨by rw [e0, hn0], by rw [e1, hn1], by rw [e2, hn2]⟩
      have hsm := HN.out.1 k hlt
      unfold SmallS at hsm
      rw [hn0, hn1, hn2] at hsm
      obtain ⟨m0, m1, m2⟩ := hsm
      have SK : Hid ((Row wr (z k) 3 n0 (S k).c (.slice i0 n0 d0) ∧ Row wr (z k) 5 n1 (S k).l (.slice i1 n1 d1) ∧ Row wr (z k) 4 n2 (S k).k (.slice i2 n2 d2)) ∧ Free wr (n0 * 3) (.slice i0 n0 d0) ∧ Free wr (n1 * 5) (.slice i1 n1 d1) ∧ Free wr (n2 * 4) (.slice i2 n2 d2)) := by
        rw [e0, e1, e2] at sk fk
        obtain ⟨x0, x1, x2⟩ := sk
        obtain ⟨y0, y1, y2⟩ := fk
        rw [hn0] at x0 y0
        rw [hn1] at x1 y1
        rw [hn2] at x2 y2
        exact ⟨⟨x0, x1, x2⟩, y0, y1, y2⟩
      have AK : Hid ((0 < n0 → 0 < n1 → (Value.slice i0 n0 d0).ownBlock ≠ (Value.slice i1 n1 d1).ownBlock) ∧ (0 < n0 → 0 < n2 → (Value.slice i0 n0 d0).ownBlock ≠ (Value.slice i2 n2 d2).ownBlock) ∧ (0 < n1 → 0 < n2 → (Value.slice i1 n1 d1).ownBlock ≠ (Value.slice i2 n2 d2).ownBlock)) := by
        unfold ApartD at ak
        rw [e0, e1, e2, hn0, hn1, hn2] at ak
        exact ak
      have OK : Hid ((0 < n0 → ∀ j, (Value.slice i0 n0 d0).ownBlock = some j → z k ≤ j ∧ j < z (k + 1)) ∧ (0 < n1 → ∀ j, (Value.slice i1 n1 d1).ownBlock = some j → z k ≤ j ∧ j < z (k + 1)) ∧ (0 < n2 → ∀ j, (Value.slice i2 n2 d2).ownBlock = some j → z k ≤ j ∧ j < z (k + 1))) := by
        unfold OwnIn at ok
        rw [e0, e1, e2, hn0, hn1, hn2] at ok
        exact ok
      have SP : Hid (∀ q, Spare n S U q → (0 < n0 → (Value.slice i0 n0 d0).ownBlock ≠ some q) ∧ (0 < n1 → (Value.slice i1 n1 d1).ownBlock ≠ some q) ∧ (0 < n2 → (Value.slice i2 n2 d2).ownBlock ≠ some q)) := fun q hq => by
        have h := hq k hlt
        unfold OwnIn at h
        rw [e0, e1, e2, hn0, hn1, hn2] at h
        exact ⟨fun hp e => h.1 hp q e rfl, fun hp e => h.2.1 hp q e rfl, fun hp e => h.2.2 hp q e rfl⟩
      have HE : Hid ((S k).nc = n0 ∧ (S k).nl = n1 ∧ (S k).nw = n2) := ⟨hn0, hn1, hn2⟩
      have HC1 : Hid (c + n0 * 3 + n1 * 5 + n2 * 4 = sumN (markT S) (k + 1)) := by
        unfold Hid
        show _ = sumN (markT S) k + ((S k).nc * 3 + (S k).nl * 5 + (S k).nw * 4)
        rw [HC.out, hn0, hn1, hn2]
        omega
      clear sk fk ak ok uk emx e0 e1 e2 hn0 hn1 hn2
      go_wp2_with fail
      refine (markCellS_turn _ (z k) n0 (S k).c (k0 + (c : Nat)) _ SK.out.1.1 SK.out.2.1 m0 (by omega) (by omega)).mono ?_
      rintro e w1 ⟨rfl, r1, f1, g1⟩
      have W1 : Hid (Within (z k) (z (k + 1)) wr w1) := Within.of g1 (fun b q => by obtain ⟨h0, h1⟩ := turn_eq q; exact OK.out.1 h0 b h1)
      have x1 := apart_rows SK.out.1.1 SK.out.1.2.1 AK.out.1
      have x2 := apart_rows SK.out.1.1 SK.out.1.2.2 AK.out.2.1
      have SK1 : Hid ((Row w1 (z k) 3 n0 (fun p => k0 + (c : Nat) + (p : Nat)) (.slice i0 n0 d0) ∧ Row w1 (z k) 5 n1 (S k).l (.slice i1 n1 d1) ∧ Row w1 (z k) 4 n2 (S k).k (.slice i2 n2 d2)) ∧ Free w1 (n0 * 3) (.slice i0 n0 d0) ∧ Free w1 (n1 * 5) (.slice i1 n1 d1) ∧ Free w1 (n2 * 4) (.slice i2 n2 d2)) :=
        ⟨⟨r1, SK.out.1.2.1.turned g1 x1, SK.out.1.2.2.turned g1 x2⟩, f1, SK.out.2.2.1.turned SK.out.1.2.1 g1 x1, SK.out.2.2.2.turned SK.out.1.2.2 g1 x2⟩
      have KP1 : Hid (KeptS n S U wr w1) := KeptS.of g1 (fun q hq e => by obtain ⟨h0, h1⟩ := turn_eq e; exact (SP.out q hq).1 h0 h1)
      have FL1 : Hid (FillS w1 g n n U) := HR.out.2.1.kept KP1.out.size (KP1.out.block g HR.out.2.1.1 HF.out.2.2)
      clear r1 f1 g1 x1 x2 b0 b1 b2 SK
      obtain ⟨b0, b1, b2⟩ := FL1.out.2.2 k hlt
      rw [EU.out.1] at b0
      rw [EU.out.2.1] at b1
      rw [EU.out.2.2] at b2
      go_wp2_with fail
      refine (markLockS_turn _ (z k) n1 (S k).l _ _ SK1.out.1.2.1 SK1.out.2.2.1 m1 (by omega) (by omega)).mono ?_
      rintro e w2 ⟨rfl, r2, f2, g2⟩
      have W2 : Hid (Within (z k) (z (k + 1)) wr w2) := W1.out.trans (Within.of g2 (fun b q => by obtain ⟨h0, h1⟩ := turn_eq q; exact OK.out.2.1 h0 b h1))
      have x0 := apart_rows SK1.out.1.2.1 SK1.out.1.1 (fun h1 h2 e => AK.out.1 h2 h1 e.symm)
      have x2 := apart_rows SK1.out.1.2.1 SK1.out.1.2.2 AK.out.2.2
      have SK2 : Hid ((Row w2 (z k) 3 n0 (fun p => k0 + (c : Nat) + (p : Nat)) (.slice i0 n0 d0) ∧ Row w2 (z k) 5 n1 (fun p => k0 + (c : Nat) + n0 * 3 + (p : Nat)) (.slice i1 n1 d1) ∧ Row w2 (z k) 4 n2 (S k).k (.slice i2 n2 d2)) ∧ Free w2 (n0 * 3) (.slice i0 n0 d0) ∧ Free w2 (n1 * 5) (.slice i1 n1 d1) ∧ Free w2 (n2 * 4) (.slice i2 n2 d2)) :=
        ⟨⟨SK1.out.1.1.turned g2 x0, r2, SK1.out.1.2.2.turned g2 x2⟩, SK1.out.2.1.turned SK1.out.1.1 g2 x0, f2, SK1.out.2.2.2.turned SK1.out.1.2.2 g2 x2⟩
      have KP2 : Hid (KeptS n S U wr w2) := KP1.out.trans (KeptS.of g2 (fun q hq e => by obtain ⟨h0, h1⟩ := turn_eq e; exact (SP.out q hq).2.1 h0 h1))
      have FL2 : Hid (FillS w2 g n n U) := HR.out.2.1.kept KP2.out.size (KP2.out.block g HR.out.2.1.1 HF.out.2.2)
      clear r2 f2 g2 x0 x2 b0 b1 b2 SK1 FL1 W1
      obtain ⟨b0, b1, b2⟩ := FL2.out.2.2 k hlt
      rw [EU.out.1] at b0
      rw [EU.out.2.1] at b1
      rw [EU.out.2.2] at b2
      go_wp2_with fail
      refine (markWriteS_turn _ (z k) n2 (S k).k _ _ SK2.out.1.2.2 SK2.out.2.2.2 m2 (by omega) (by omega)).mono ?_
      rintro e w3 ⟨rfl, r3, f3, g3⟩
      have W3 : Hid (Within (z k) (z (k + 1)) wr w3) := W2.out.trans (Within.of g3 (fun b q => by obtain ⟨h0, h1⟩ := turn_eq q; exact OK.out.2.2 h0 b h1))
      have x0 := apart_rows SK2.out.1.2.2 SK2.out.1.1 (fun h1 h2 e => AK.out.2.1 h2 h1 e.symm)
      have x1 := apart_rows SK2.out.1.2.2 SK2.out.1.2.1 (fun h1 h2 e => AK.out.2.2 h2 h1 e.symm)
      have SK3 : Hid (Fine w3 z n (mixS S k0 (k + 1)) U) := by
        have hm : (markK (S k) (k0 + (sumN (markT S) k : Nat))).nc = n0 ∧ (markK (S k) (k0 + (sumN (markT S) k : Nat))).nl = n1 ∧ (markK (S k) (k0 + (sumN (markT S) k : Nat))).nw = n2 := HE.out
        have h1 := HR.out.2.2.turn1 hlt W3.out (markK (S k) (k0 + (sumN (markT S) k : Nat))) (by have := mix_same S k0 k k; rw [this.1, this.2.1, this.2.2]; exact ⟨rfl, rfl, rfl⟩) (by
          rw [EU.out.1, EU.out.2.1, EU.out.2.2]
          unfold St FreeS markK
          simp only
          rw [HE.out.1, HE.out.2.1, HE.out.2.2, ← HC.out]
          exact ⟨⟨SK2.out.1.1.turned g3 x0, SK2.out.1.2.1.turned g3 x1, r3⟩, SK2.out.2.1.turned SK2.out.1.1 g3 x0, SK2.out.2.2.1.turned SK2.out.1.2.1 g3 x1, f3⟩)
        refine h1.congr (fun i hi => ?_)
        unfold mixS
        by_cases q : i = k
        · subst q; rw [if_pos rfl, if_pos (Nat.lt_succ_self i)]
        · rw [if_neg q]
          by_cases q2 : i < k
          · rw [if_pos q2, if_pos (by omega)]
          · rw [if_neg q2, if_neg (by omega)]
      have KP3 : Hid (KeptS n S U wr w3) := KP2.out.trans (KeptS.of g3 (fun q hq e => by obtain ⟨h0, h1⟩ := turn_eq e; exact (SP.out q hq).2.2 h0 h1))
      have WW : Hid (KeptS n S U w w3) := HR.out.1.trans KP3.out
      have FL3 : Hid (FillS w3 g n n U) := HR.out.2.1.kept KP3.out.size (KP3.out.block g HR.out.2.1.1 HF.out.2.2)
      clear r3 f3 g3 x0 x1 b0 b1 b2 SK2 FL2 W2 W3 HR AK OK EU SP KP1 KP2 KP3
      go_wp2
      go_roundw
      case rel => exact ⟨k + 1, c + n0 * 3 + n1 * 5 + n2 * 4, by omega, by congr 1; push_cast; omega, by go_num, HC1, WW.out, FL3.out, SK3.out⟩
      case measure => simp [intOf]; omega
    · obtain rfl : k = n := by omega
      go_wp2
      go_ret
      exact ⟨by rw [HC.out]; rfl, HR.out.2, HR.out.1⟩
set_option maxHeartbeats 1000000 in
theorem markStoreS_none (sa : Option Addr) (cp : Nat) (k0 : Int) (w : World) :
    Calls Try.prog 44 #[.slice sa 0 cp, .int .i64 k0] w fun e w' => e = .returned (.int .i64 k0) ∧ w' = w := by
  go_enter Try.func44, Try.ntmps44
  go_wp2
  go_loop [1, 5] (fun k i => i = .int .i64 0 ∧ k = .int .i64 k0) (fun _ i => 1 - (intOf i).toNat)
  case atStart => exact ⟨rfl, rfl⟩
  case round =>
    obtain ⟨rfl, rfl⟩ := hrel
    go_wp2
    go_ret
    exact ⟨rfl, rfl⟩
theorem mixS_all (S : Nat → Sto) (k0 : Int) (n i : Nat) (hi : i < n) : mixS S k0 n i = markK (S i) (k0 + (sumN (markT S) i : Nat)) := by unfold mixS; rw [if_pos hi]
/-- A row of stores that was answered: nil, or a block of its own. -/
def RowS (w : World) (lo n : Nat) (S : Nat → Sto) (U : Nat → Nat → Value) (sa : Option Addr) : Prop := 0 < n → ∃ g, sa = some ⟨g, 0, none⟩ ∧ lo ≤ g ∧ FillS w g n n U ∧ Spare n S U g
theorem markStoreS_full (n cp lo : Nat) (sa : Option Addr) (S : Nat → Sto) (U : Nat → Nat → Value) (z : Nat → Nat) (k0 : Int) (w : World) (hF : RowS w lo n S U sa) (hf : Fine w z n S U) (hs : ∀ i, i < n → SmallS (S i)) (ht : sumN (sizeT S) n ≤ 1048576) (h0 : 0 ≤ k0) (h1 : k0 ≤ 10000000) (hn : n ≤ 1048576) :
    Calls Try.prog 44 #[.slice sa n cp, .int .i64 k0] w fun e w' => e = .returned (.int .i64 (k0 + (sumN (markT S) n : Nat))) ∧ (RowS w' lo n S U sa ∧ Fine w' z n (mixS S k0 n) U) ∧ KeptS n S U w w' := by
  rcases Nat.eq_zero_or_pos n with e | e
  · subst e
    refine (markStoreS_none sa cp k0 w).mono fun e w' ⟨he, hw⟩ => ?_
    subst hw
    exact ⟨by rw [he]; simp [sumN], ⟨hF, fun i hi => absurd hi (Nat.not_lt_zero i)⟩, KeptS.refl _⟩
  · obtain ⟨g, rfl, hlo, h2, h3⟩ := hF e
    refine (markStoreS_pos n cp g S U z k0 w h2 hf h3 hs ht h0 h1 hn).mono fun e' w' ⟨he, ⟨x1, x2⟩, x3⟩ => ⟨he, ⟨fun _ => ⟨g, rfl, hlo, x1, h3⟩, x2⟩, x3⟩
set_option maxRecDepth 100000 in
set_option maxHeartbeats 4000000 in
theorem heldStoreS_any (n cp B : Nat) (sa : Option Addr) (S : Nat → Sto) (U : Nat → Nat → Value) (k0 : Int) (w : World) (h : Stos w B n (mixS S k0 n) U (.slice sa n cp)) (hs : ∀ i, i < n → SmallS (S i)) (ht : sumN (sizeT S) n ≤ 1048576) (h0 : 0 ≤ k0) (h1 : k0 ≤ 10000000) (hn : n ≤ 1048576) :
    Calls Try.prog 47 #[.slice sa n cp, .int .i64 k0] w fun e w' => e = .returned (.int .i64 (k0 + (sumN (markT S) n : Nat))) ∧ w' = w := by
  have H : Hid (Stos w B n (mixS S k0 n) U (.slice sa n cp)) := h
  have HN : Hid ((∀ i, i < n → SmallS (S i)) ∧ ∀ k, k ≤ n → sumN (markT S) k ≤ 5242880) := ⟨hs, fun k hk => by have := sum_mono (markT S) hk; have := markT_le S n; omega⟩
  clear h hs ht
  go_enter Try.func47, Try.ntmps47
  go_wp2
  go_loopw [1, 5] (fun j i wr => ∃ (k c : Nat), k ≤ n ∧ j = .int .i64 (k0 + (c : Nat)) ∧ i = .int .i64 k ∧ Hid (c = sumN (markT S) k) ∧ wr = w) (fun _ i _ => n - (intOf i).toNat)
  case atStart => exact ⟨0, 0, Nat.zero_le _, by simp, rfl, rfl, rfl⟩
  case round =>
    obtain ⟨k, c, hk, rfl, rfl, HC, rfl⟩ := hrel
    have hcb : c ≤ 5242880 := by rw [HC.out]; exact HN.out.2 k hk
    by_cases hlt : k < n
    · obtain ⟨g, o, rfl, _, hg, ⟨b0, b1, b2⟩, sk⟩ := H.out.at hlt
      rw [mixS_all S k0 n k hlt, ← HC.out] at sk
      obtain ⟨i0, d0, i1, d1, i2, d2, e0, e1, e2⟩ := sk.form
      obtain ⟨n0, hn0⟩ : ∃ x, (S k).nc = x := ⟨_, rfl⟩
      obtain ⟨n1, hn1⟩ : ∃ x, (S k).nl = x := ⟨_, rfl⟩
      obtain ⟨n2, hn2⟩ : ∃ x, (S k).nw = x := ⟨_, rfl⟩
      have e0' : U k 0 = .slice i0 n0 d0 := by rw [e0]; show Value.slice i0 (S k).nc d0 = _; rw [hn0]
      have e1' : U k 1 = .slice i1 n1 d1 := by rw [e1]; show Value.slice i1 (S k).nl d1 = _; rw [hn1]
      have e2' : U k 2 = .slice i2 n2 d2 := by rw [e2]; show Value.slice i2 (S k).nw d2 = _; rw [hn2]
      rw [e0'] at b0
      rw [e1'] at b1
      rw [e2'] at b2
      have SK : Hid (Row wr B 3 n0 (fun p => k0 + (c : Nat) + (p : Nat)) (.slice i0 n0 d0) ∧ Row wr B 5 n1 (fun p => k0 + (c : Nat) + n0 * 3 + (p : Nat)) (.slice i1 n1 d1) ∧ Row wr B 4 n2 (fun p => k0 + (c : Nat) + n0 * 3 + n1 * 5 + (p : Nat)) (.slice i2 n2 d2)) := by
        rw [e0', e1', e2'] at sk
        unfold St markK at sk
        simp only at sk
        rw [hn0, hn1, hn2] at sk
        exact sk
      have hsm := HN.out.1 k hlt
      unfold SmallS at hsm
      rw [hn0, hn1, hn2] at hsm
      obtain ⟨m0, m1, m2⟩ := hsm
      have HC1 : Hid (c + n0 * 3 + n1 * 5 + n2 * 4 = sumN (markT S) (k + 1)) := by
        unfold Hid
        show _ = sumN (markT S) k + ((S k).nc * 3 + (S k).nl * 5 + (S k).nw * 4)
        rw [HC.out, hn0, hn1, hn2]
        omega
      have hcb1 : c + n0 * 3 + n1 * 5 + n2 * 4 ≤ 5242880 := by rw [HC1.out]; exact HN.out.2 (k + 1) hlt
      have z0 : decide (k0 + (c : Nat) + n0 * 3 < 0) = false := decide_eq_false (by omega)
      have z1 : decide (k0 + (c : Nat) + n0 * 3 + n1 * 5 < 0) = false := decide_eq_false (by omega)
      have z2 : decide (k0 + (c : Nat) + n0 * 3 + n1 * 5 + n2 * 4 < 0) = false := decide_eq_false (by omega)
      clear sk e0 e1 e2 e0' e1' e2' hn0 hn1 hn2 HC
      go_wp2_with fail
      refine (heldCellS_any _ B n0 (k0 + (c : Nat)) _ SK.out.1 m0 (by omega) (by omega)).mono ?_
      rintro e w1 ⟨rfl, rfl⟩
      go_wp2_with fail
      refine (heldLockS_any _ B n1 _ _ SK.out.2.1 m1 (by omega) (by omega)).mono ?_
      rintro e w1 ⟨rfl, rfl⟩
      go_wp2_with fail
      refine (heldWriteS_any _ B n2 _ _ SK.out.2.2 m2 (by omega) (by omega)).mono ?_
      rintro e w1 ⟨rfl, rfl⟩
      clear SK b0 b1 b2
      go_wp2
      go_roundw
      case rel => exact ⟨k + 1, c + n0 * 3 + n1 * 5 + n2 * 4, by omega, by congr 1; push_cast; omega, by go_num, HC1, by trivial⟩
      case measure => simp [intOf]; omega
    · obtain rfl : k = n := by omega
      go_wp2
      go_ret
      exact ⟨by rw [HC.out]; rfl, rfl⟩
end

section
open Go.RowKit
/-- Groups in new memory, from block lo on: all may be written, and every list lies in a block of its own. -/
def FineR (w : World) (lo tp nr : Nat) (F : Nat → Int) (n : Nat) (S : Nat → Sto) (ra : Option Addr) (rc : Nat) (sa : Option Addr) (U : Nat → Nat → Value) (z : Nat → Nat) : Prop :=
  (Row w lo 3 nr F (.slice ra nr rc) ∧ Free w (nr * 3) (.slice ra nr rc)) ∧ (RowS w lo n S U sa ∧ Fine w z n S U) ∧ ((∀ i, i < n → lo ≤ z i) ∧ (∀ i, i < n → z (i + 1) ≤ tp) ∧ tp ≤ w.heap.size) ∧ (0 < nr → ∀ q, (Value.slice ra nr rc).ownBlock = some q → Spare n S U q ∧ (0 < n → sa ≠ some ⟨q, 0, none⟩) ∧ q < tp)
theorem RowS.kept {w w' : World} {lo n : Nat} {S : Nat → Sto} {U : Nat → Nat → Value} {sa : Option Addr} (h : RowS w lo n S U sa) (hs : w.heap.size ≤ w'.heap.size) (hb : ∀ g, 0 < n → sa = some ⟨g, 0, none⟩ → g < w.heap.size → w'.heap[g]? = w.heap[g]?) : RowS w' lo n S U sa := fun hn => by
  obtain ⟨g, h1, h2, h3, h4⟩ := h hn
  exact ⟨g, h1, h2, h3.kept hs (hb g hn h1 h3.1), h4⟩
theorem RowS.later {w w' : World} {lo n : Nat} {S : Nat → Sto} {U : Nat → Nat → Value} {sa : Option Addr} (h : RowS w lo n S U sa) (hb : Below w.heap.size w w') : RowS w' lo n S U sa := h.kept hb.size (fun g _ _ hg => hb.block g hg)
theorem RowS.stos {w : World} {lo n : Nat} {S : Nat → Sto} {U : Nat → Nat → Value} {sa : Option Addr} {z : Nat → Nat} (h : RowS w lo n S U sa) (hf : Fine w z n S U) (hz : ∀ i, i < n → lo ≤ z i) (sc : Nat) : Stos w lo n S U (.slice sa n sc) :=
  ⟨⟨_, _, rfl, fun hn => by
    obtain ⟨g, h1, h2, h3, _⟩ := h hn
    refine ⟨g, 0, h1, h2, h3.1, fun i hi => ?_⟩
    obtain ⟨c0, c1, c2⟩ := h3.2.2 i hi
    simp only [Nat.zero_add]
    exact ⟨c0, c1, c2⟩⟩, fun i hi => (hf i hi).1.1.mono (hz i hi)⟩
theorem FineR.grs {w : World} {lo tp nr : Nat} {F : Nat → Int} {n : Nat} {S : Nat → Sto} {ra : Option Addr} {rc : Nat} {sa : Option Addr} {U : Nat → Nat → Value} {z : Nat → Nat} (h : FineR w lo tp nr F n S ra rc sa U z) (sc : Nat) : Grs w lo nr F n S U (.slice ra nr rc) (.slice sa n sc) := ⟨h.1.1, h.2.1.1.stos h.2.1.2 h.2.2.1.1 sc⟩
theorem FineR.later {w w' : World} {lo tp nr : Nat} {F : Nat → Int} {n : Nat} {S : Nat → Sto} {ra : Option Addr} {rc : Nat} {sa : Option Addr} {U : Nat → Nat → Value} {z : Nat → Nat} (h : FineR w lo tp nr F n S ra rc sa U z) (hb : Below w.heap.size w w') : FineR w' lo tp nr F n S ra rc sa U z :=
  ⟨⟨h.1.1.later hb, h.1.2.ofRow h.1.1 hb⟩, ⟨h.2.1.1.later hb, h.2.1.2.later hb⟩, ⟨h.2.2.1.1, h.2.2.1.2.1, Nat.le_trans h.2.2.1.2.2 hb.size⟩, h.2.2.2⟩
theorem Fine.within {w w' : World} {z : Nat → Nat} {n : Nat} {S : Nat → Sto} {U : Nat → Nat → Value} {B E : Nat} (h : Fine w z n S U) (hw : Within B E w w') (hz : ∀ i, i < n → E ≤ z i) : Fine w' z n S U := fun i hi => by
  obtain ⟨⟨h1, h2, h3⟩, h4, h5⟩ := h i hi
  have ho : OwnIn (S i) (U i 0) (U i 1) (U i 2) (fun j => j < B ∨ E ≤ j) := h4.mono (fun j hj => Or.inr (by have := hz i hi; omega))
  exact ⟨⟨h1.within hw ho, h2.within h1 hw ho, h3⟩, h4, h5⟩
theorem FineR.within {w w' : World} {lo tp nr : Nat} {F : Nat → Int} {n : Nat} {S : Nat → Sto} {ra : Option Addr} {rc : Nat} {sa : Option Addr} {U : Nat → Nat → Value} {z : Nat → Nat} {B E : Nat} (h : FineR w lo tp nr F n S ra rc sa U z) (hw : Within B E w w') (hE : E ≤ lo) : FineR w' lo tp nr F n S ra rc sa U z := by
  have ho : 0 < nr → ∀ k, (Value.slice ra nr rc).ownBlock = some k → k < B ∨ E ≤ k := fun hn k hk => Or.inr (Nat.le_trans hE (h.1.1.lt hn k hk).1)
  refine ⟨⟨h.1.1.within hw ho, h.1.2.within h.1.1 hw ho⟩, ⟨h.2.1.1.kept hw.size (fun g hn e hg => hw.block g hg (Or.inr ?_)), h.2.1.2.within hw (fun i hi => Nat.le_trans hE (h.2.2.1.1 i hi))⟩, ⟨h.2.2.1.1, h.2.2.1.2.1, Nat.le_trans h.2.2.1.2.2 hw.size⟩, h.2.2.2⟩
  obtain ⟨g', e', hl, _⟩ := h.2.1.1 hn
  rw [e] at e'
  simp only [Option.some.injEq, Addr.mk.injEq, and_true] at e'
  omega
theorem Spare.mix {n : Nat} {S : Nat → Sto} {U : Nat → Nat → Value} {q : Nat} (h : Spare n S U q) (k0 : Int) (k : Nat) : Spare n (mixS S k0 k) U q := fun i hi => by
  have := h i hi
  obtain ⟨e0, e1, e2⟩ := mix_same S k0 k i
  unfold OwnIn at this ⊢
  rw [e0, e1, e2]
  exact this
/-- A code, and groups in new memory. -/
def ResGr (w : World) (c : Int) (nr : Nat) (F : Nat → Int) (n : Nat) (S : Nat → Sto) (e : Ending) (w' : World) : Prop :=
  ∃ ra rc sa sc U z, e = .returned (.agg #[.int .i64 c, .slice ra nr rc, .slice sa n sc]) ∧ FineR w' w.heap.size w'.heap.size nr F n S ra rc sa U z ∧ Below w.heap.size w w'
/-- Groups that are numbered. -/
def MarkG (w : World) (lo nr n : Nat) (S : Nat → Sto) (ra : Option Addr) (rc : Nat) (sa : Option Addr) (sc : Nat) (U : Nat → Nat → Value) : Prop := Row w lo 3 nr (fun p => 1 + (p : Nat)) (.slice ra nr rc) ∧ Stos w lo n (mixS S (1 + nr * 3) n) U (.slice sa n sc)
theorem MarkG.later {w w' : World} {lo nr n : Nat} {S : Nat → Sto} {ra : Option Addr} {rc : Nat} {sa : Option Addr} {sc : Nat} {U : Nat → Nat → Value} (h : MarkG w lo nr n S ra rc sa sc U) (hb : Below w.heap.size w w') : MarkG w' lo nr n S ra rc sa sc U := ⟨h.1.later hb, h.2.later hb⟩
def SmallG (nr n : Nat) (S : Nat → Sto) : Prop := nr ≤ 1048576 ∧ n ≤ 1048576 ∧ (∀ i, i < n → SmallS (S i)) ∧ sumN (sizeT S) n ≤ 1048576
set_option maxHeartbeats 2000000 in
theorem markGroups_full (nr : Nat) (F : Nat → Int) (n : Nat) (S : Nat → Sto) (ra : Option Addr) (rc : Nat) (sa : Option Addr) (sc : Nat) (U : Nat → Nat → Value) (z : Nat → Nat) (lo tp : Nat) (w : World) (h : FineR w lo tp nr F n S ra rc sa U z) (hs : SmallG nr n S) :
    Calls Try.prog 27 #[.agg #[.slice ra nr rc, .slice sa n sc], .int .i64 1] w fun e w' => e = .returned (.int .i64 (1 + nr * 3 + (sumN (markT S) n : Nat))) ∧ MarkG w' lo nr n S ra rc sa sc U ∧ Within lo tp w w' := by
  have H : Hid (FineR w lo tp nr F n S ra rc sa U z) := h
  have HN : Hid (SmallG nr n S) := hs
  obtain ⟨hr, hn, _⟩ := hs
  clear h
  have HB : Hid (Blk2 (w.alloc (.cells #[.slice ra nr rc, .slice sa n sc] 27)) w.heap.size (.slice ra nr rc) (.slice sa n sc)) := Blk2.new w (.slice ra nr rc) (.slice sa n sc) 27
  go_enter Try.func27, Try.ntmps27
  go_wp2_with fail
  refine (markRangeS_turn _ lo nr F 1 _ (H.out.1.1.alloc _) (H.out.1.2.ofRow H.out.1.1 (below_alloc _ _)) hr (by omega) (by omega)).mono ?_
  rintro e w1 ⟨rfl, r1, _, g1⟩
  have tn : ∀ q, turn nr (.slice ra nr rc) = some q → (lo ≤ q ∧ q < tp ∧ tp ≤ w.heap.size) ∧ Spare n S U q ∧ (0 < n → sa ≠ some ⟨q, 0, none⟩) := fun q e => by obtain ⟨h0, h1⟩ := turn_eq e; have x := H.out.2.2.2 h0 q h1; exact ⟨⟨(H.out.1.1.lt h0 q h1).1, x.2.2, H.out.2.2.1.2.2⟩, x.1, x.2.1⟩
  have bl : ∀ q, q < w.heap.size → (turn nr (.slice ra nr rc) ≠ some q) → w1.heap[q]? = w.heap[q]? := fun q hq hne => (g1.block q (by simp; omega) (fun e => hne e.symm)).trans ((below_alloc w _).block q hq)
  have W1 : Hid (Within lo tp w w1) := ⟨g1.os, g1.tape, g1.output, Nat.le_trans (by simp) g1.size, fun q hq ho => bl q hq (fun e => by have := (tn q e).1; omega)⟩
  have HB1 : Hid (Blk2 w1 w.heap.size (.slice ra nr rc) (.slice sa n sc)) := HB.out.kept (g1.block w.heap.size (by simp) (fun e => by have := (tn _ e.symm).1; omega))
  have RS1 : Hid (RowS w1 lo n S U sa) := H.out.2.1.1.kept W1.out.size (fun g hn e hg => bl g hg (fun q => (tn g q).2.2 hn e))
  have ob : ∀ i, i < n → OwnIn (S i) (U i 0) (U i 1) (U i 2) (fun q => q < w.heap.size ∧ turn nr (.slice ra nr rc) ≠ some q) := fun i hi => by
    obtain ⟨_, h4, _⟩ := H.out.2.1.2 i hi
    have hz := H.out.2.2.1.2.1 i hi
    have hz2 := H.out.2.2.1.2.2
    refine ⟨fun hp k hk => ⟨?_, fun e => ?_⟩, fun hp k hk => ⟨?_, fun e => ?_⟩, fun hp k hk => ⟨?_, fun e => ?_⟩⟩
    · have := (h4.1 hp k hk).2; omega
    · exact ((tn k e).2.1 i hi).1 hp k hk rfl
    · have := (h4.2.1 hp k hk).2; omega
    · exact ((tn k e).2.1 i hi).2.1 hp k hk rfl
    · have := (h4.2.2 hp k hk).2; omega
    · exact ((tn k e).2.1 i hi).2.2 hp k hk rfl
  have FI1 : Hid (Fine w1 z n S U) := fun i hi => by
    obtain ⟨⟨⟨s0, s1, s2⟩, ⟨f0, f1, f2⟩, h3⟩, h4⟩ := (H.out.2.1.2.later (below_alloc w (.cells #[.slice ra nr rc, .slice sa n sc] 27))) i hi
    have o := ob i hi
    have x0 : 0 < (S i).nc → ∀ k, (U i 0).ownBlock = some k → some k ≠ turn nr (.slice ra nr rc) := fun hp k hk e => (o.1 hp k hk).2 e.symm
    have x1 : 0 < (S i).nl → ∀ k, (U i 1).ownBlock = some k → some k ≠ turn nr (.slice ra nr rc) := fun hp k hk e => (o.2.1 hp k hk).2 e.symm
    have x2 : 0 < (S i).nw → ∀ k, (U i 2).ownBlock = some k → some k ≠ turn nr (.slice ra nr rc) := fun hp k hk e => (o.2.2 hp k hk).2 e.symm
    exact ⟨⟨⟨s0.turned g1 x0, s1.turned g1 x1, s2.turned g1 x2⟩, ⟨f0.turned s0 g1 x0, f1.turned s1 g1 x1, f2.turned s2 g1 x2⟩, h3⟩, h4⟩
  have R1 : Hid (Row w1 lo 3 nr (fun p => 1 + (p : Nat)) (.slice ra nr rc)) := r1
  have HSP : Hid (0 < nr → ∀ q, (Value.slice ra nr rc).ownBlock = some q → Spare n S U q) := fun hp q hq => (H.out.2.2.2 hp q hq).1
  have HOB : Hid (∀ i, i < n → OwnIn (S i) (U i 0) (U i 1) (U i 2) (fun q => lo ≤ q ∧ q < tp)) := fun i hi => by
    obtain ⟨_, h4, _⟩ := H.out.2.1.2 i hi
    have hz := H.out.2.2.1.2.1 i hi
    have hl := H.out.2.2.1.1 i hi
    exact h4.mono (fun q hq => by omega)
  have HZ : Hid (∀ i, i < n → lo ≤ z i) := H.out.2.2.1.1
  clear r1 g1 tn bl ob H HB
  obtain ⟨⟨p0, p1⟩, _⟩ := HB1.out
  go_wp2_with fail
  refine (markStoreS_full n sc lo sa S U z (1 + nr * 3) _ RS1.out FI1.out HN.out.2.2.1 HN.out.2.2.2 (by omega) (by omega) hn).mono ?_
  rintro e w2 ⟨rfl, ⟨RS2, FI2⟩, K2⟩
  have RS2' : RowS w2 lo n (mixS S (1 + nr * 3) n) U sa := fun hp => by
    obtain ⟨g, x1, x2, x3, x4⟩ := RS2 hp
    exact ⟨g, x1, x2, x3, x4.mix _ _⟩
  have MM : Hid (MarkG w2 lo nr n S ra rc sa sc U) := by
    refine ⟨?_, RS2'.stos FI2 HZ.out sc⟩
    rcases Nat.eq_zero_or_pos nr with q | q
    · subst q
      exact ⟨_, _, rfl, fun hq => absurd hq (Nat.lt_irrefl 0)⟩
    · exact R1.out.kept K2.size (fun k hk hlt => K2.block k hlt (HSP.out q k hk))
  have WW : Hid (Within lo tp w w2) := ⟨K2.os.trans W1.out.os, K2.tape.trans W1.out.tape, K2.output.trans W1.out.output, Nat.le_trans W1.out.size K2.size, fun q hq ho => (K2.block q (Nat.lt_of_lt_of_le hq W1.out.size) (fun i hi => (HOB.out i hi).mono (fun p hp => by omega))).trans (W1.out.block q hq ho)⟩
  clear RS2 FI2 K2 RS2' RS1 FI1 R1 HSP HOB W1
  go_wp2
  go_ret
  exact ⟨rfl, MM.out, WW.out⟩
set_option maxHeartbeats 2000000 in
theorem heldGroups_any (nr n : Nat) (S : Nat → Sto) (ra : Option Addr) (rc : Nat) (sa : Option Addr) (sc : Nat) (U : Nat → Nat → Value) (lo : Nat) (w : World) (h : MarkG w lo nr n S ra rc sa sc U) (hs : SmallG nr n S) :
    Calls Try.prog 29 #[.agg #[.slice ra nr rc, .slice sa n sc], .int .i64 1] w fun e w' => e = .returned (.int .i64 (1 + nr * 3 + (sumN (markT S) n : Nat))) ∧ Below w.heap.size w w' := by
  have H : Hid (MarkG w lo nr n S ra rc sa sc U) := h
  have HN : Hid (SmallG nr n S) := hs
  obtain ⟨hr, hn, _⟩ := hs
  obtain ⟨t, ht⟩ : ∃ t, sumN (markT S) n = t := ⟨_, rfl⟩
  have HT : Hid (sumN (markT S) n = t) := ht
  have d0 : decide ((1 : Int) + nr * 3 < 0) = false := decide_eq_false (by omega)
  have d1 : decide ((1 : Int) + nr * 3 + (t : Nat) < 0) = false := decide_eq_false (by omega)
  rw [ht]
  clear h ht
  go_enter Try.func29, Try.ntmps29
  go_wp2_with fail
  refine (heldRangeS_any _ lo nr 1 _ (H.out.1.alloc _) hr (by omega) (by omega)).mono ?_
  rintro e w1 ⟨rfl, rfl⟩
  go_wp2_with fail
  refine (heldStoreS_any n sc lo sa S U (1 + nr * 3) _ (H.out.2.alloc _) HN.out.2.2.1 HN.out.2.2.2 (by omega) (by omega) hn).mono ?_
  rw [HT.out]
  rintro e w1 ⟨rfl, rfl⟩
  go_wp2
  go_ret
  exact ⟨rfl, below_alloc _ _⟩
end

section
open Go.RowKit
theorem FineR.row {w : World} {lo tp nr : Nat} {F : Nat → Int} {n : Nat} {S : Nat → Sto} {ra : Option Addr} {rc : Nat} {sa : Option Addr} {U : Nat → Nat → Value} {z : Nat → Nat} (h : FineR w lo tp nr F n S ra rc sa U z) : 0 < n → ∀ g, sa = some ⟨g, 0, none⟩ → g < w.heap.size := fun hn g e => by
  obtain ⟨g', e', _, hf, _⟩ := h.2.1.1 hn
  rw [e] at e'
  simp only [Option.some.injEq, Addr.mk.injEq, and_true] at e'
  rw [e']
  exact hf.1
end

section
open Go.RowKit
end
end
end Go.Proofs.Ytdfikaehipdjaaa

namespace Go.Proofs.Ytdfikaehipdjaaa
section
open Go.RowKit
end

section
open Go.RowKit
end

section
open Go.RowKit
end

section
open Go.RowKit
theorem ResRow.none {w w' : World} {c : Int} {e : Ending} {F : Nat → Int} (he : e = .returned (.agg #[.int .i64 c, .slice none 0 0])) (hb : Below w.heap.size w w') : ResRow 3 w c 0 F e w' :=
  ⟨Option.none, 0, he, ⟨_, _, rfl, fun q => absurd q (Nat.lt_irrefl 0)⟩, Free.of0 _ _, hb⟩
theorem Blk3.row {x : World} {b B : Nat} {F : Nat → Int} (h : Blk3 x b (.int .i64 (F 0)) (.int .i64 (F 1)) (.int .i64 (F 2))) (hB : B ≤ b) (cp : Nat) : Row x B 3 1 F (.slice (some ⟨b, 0, none⟩) 1 cp) ∧ Free x (1 * 3) (.slice (some ⟨b, 0, none⟩) 1 cp) := by
  have hl := h.lt
  obtain ⟨⟨h0, h1, h2⟩, f0, f1, f2⟩ := h
  refine ⟨⟨_, _, rfl, fun _ => ⟨b, 0, rfl, hB, hl, fun p hp => ?_⟩⟩, ?_⟩
  · match p, hp with
    | 0, _ => exact h0
    | 1, _ => exact h1
    | 2, _ => exact h2
  · intro g o n c hv p hp
    simp only [Value.slice.injEq, Option.some.injEq, Addr.mk.injEq] at hv
    obtain ⟨⟨rfl, rfl, _⟩, _, _⟩ := hv
    match p, hp with
    | 0, _ => exact f0
    | 1, _ => exact f1
    | 2, _ => exact f2
def wholeF (e : Int) (p : Nat) : Int := if p = 0 then 0 else if p = 1 then 200 else e
set_option maxRecDepth 100000 in
set_option maxHeartbeats 1000000 in
theorem implWhole_ok (ep : Int) (h : 1 ≤ ep ∧ ep ≤ 9999) (w : World) : Calls Try.prog 21 #[.int .i64 ep] w (ResRow 3 w 0 1 (wholeF ep)) := by
  have L0 : Hid (decide (1 ≤ ep ∧ ep ≤ 9999) = true) := decide_eq_true h
  go_enter Try.func21, Try.ntmps21
  go_wp2_with fail
  refine (isEpoch_is _ _ L0.out _).mono ?_
  rintro e w1 ⟨rfl, rfl⟩
  go_wp2
  refine bodyPost_ret (v := .agg #[.int .i64 0, .slice (some ⟨w.heap.size + 1, 0, none⟩) 1 1]) (by simp [results, Try.results21, go_sem]) rfl ⟨_, _, rfl, ?_⟩
  have K := Blk3.row (F := wholeF ep) (B := w.heap.size) (Blk3.new (w.alloc (.cells #[.int .i64 0, .slice (some ⟨w.heap.size + 1, 0, none⟩) 1 1] 57)) (.int .i64 0) (.int .i64 200) (.int .i64 ep) 54) (by simp) 1
  rw [World.size_alloc] at K
  exact ⟨K.1, K.2, (below_alloc _ _).alloc (by simp) _⟩
set_option maxHeartbeats 1000000 in
theorem implWhole_bad (ep : Int) (h : ¬ (1 ≤ ep ∧ ep ≤ 9999)) (w : World) : Calls Try.prog 21 #[.int .i64 ep] w (ResRow 3 w 3 0 (wholeF ep)) := by
  have L0 : Hid (decide (1 ≤ ep ∧ ep ≤ 9999) = false) := decide_eq_false h
  go_enter Try.func21, Try.ntmps21
  go_wp2_with fail
  refine (isEpoch_is _ _ L0.out _).mono ?_
  rintro e w1 ⟨rfl, rfl⟩
  go_wp2
  exact bodyPost_ret (v := .agg #[.int .i64 3, .slice none 0 0]) (by simp [results, Try.results21, go_sem]) rfl (ResRow.none rfl ((below_alloc _ _)))
end
end Go.Proofs.Ytdfikaehipdjaaa

