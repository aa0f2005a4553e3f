/-
 Own text, merged of SortD, StoA, SetB, StorL.
-/
import Derived.Test.YtiadbiiiikhfaaaGreatDoorPk5
namespace Go.Proofs.YtiadbiiiikhfaaaGreatDoor
section
open Go.RowKit Go.Maps
theorem kp_same {p q x y : Int} (hp : Wf p) (hq : Wf q) (hx : Wf x) (hy : Wf y) : (kp p q).sameKey (kp x y) = decide (p = x ∧ q = y) := by
 by_cases e : p = x ∧ q = y
 ·obtain ⟨rfl, rfl⟩ := e
  simp [kp, Lit.sameKey]
 ·rw [decide_eq_false e]
  have : kp p q ≠ kp x y := fun h => e (kp_inj hp hq hx hy h)
  unfold kp at this ⊢
  unfold Lit.sameKey
  rw [beq_eq_false_iff_ne]
  exact fun h => this (by rw [h])
theorem lits_int {m : Nat} {c : Value} {ls : List Lit} (h : Tryz.prog.keyLits (m + 1) 2 [c] = some ls) : ∃ x, c = .int .i64 x ∧ ls = [.int .i64 x] ∧ Wf x := by
 unfold Program.keyLits at h
 simp only [Tryz.underlying2] at h
 cases c <;> simp at h
 obtain ⟨⟨rfl, hw⟩, rfl⟩ := h
 exact ⟨_, rfl, rfl, hw⟩
theorem keyOf_place_inv {key : Value} {kl : Lit} (h : keyOf Tryz.prog 105 key = some kl) : ∃ x y, key = .agg #[.int .i64 x, .int .i64 y] ∧ kl = kp x y ∧ Wf x ∧ Wf y := by
 have h2 : Tryz.prog.cellsOf 105 = 2 := by kernel_rfl
 have h3 : Tryz.prog.cellsOf 2 = 1 := by kernel_rfl
 obtain ⟨m, h4⟩ : ∃ m, Tryz.prog.types.size = m + 1 := ⟨Tryz.prog.types.size - 1, by kernel_rfl⟩
 have hf := h
 unfold keyOf at hf
 simp only [Tryz.underlying105] at hf
 by_cases hc : (Tryz.prog.keyType 105 && key.formed Tryz.prog 105) = true
 case neg => rw [if_neg hc] at hf; cases hf
 rw [if_pos hc, h4] at hf
 have hform := (Bool.and_eq_true_iff.1 hc).2
 cases key with
 | agg cs =>
  simp [Value.formed, Tryz.underlying105, h2] at hform
  obtain ⟨c0, c1, rfl⟩ : ∃ c0 c1, cs = #[c0, c1] := by
   exact ⟨cs[0]'(by omega), cs[1]'(by omega), Array.ext (by simpa using hform) (fun i h0 h1 => by
    have : i = 0 ∨ i = 1 := by simp at h1; omega
    rcases this with rfl | rfl <;> rfl)⟩
  unfold Program.keyLits at hf
  simp only [Tryz.underlying105, Value.cells] at hf
  rw [if_pos (by rw [h2]; exact ⟨rfl, by kernel_rfl⟩)] at hf
  simp [h3, List.mapM_cons, Option.bind_eq_some_iff] at hf
  obtain ⟨l0, g0, _, ⟨l1, g1, rfl⟩, rfl⟩ := hf
  obtain ⟨x, rfl, rfl, hx⟩ := lits_int g0
  obtain ⟨y, rfl, rfl, hy⟩ := lits_int g1
  exact ⟨x, y, rfl, by simp [kp], hx, hy⟩
 | _ => simp [Value.formed, Tryz.underlying105] at hform
/-- Block b is a map that has m, block r an iterator over it; 'left' tells which keys are still to come, cnt how many at most. -/
def PR (w : World) (b r n : Nat) (m : Int → Int → Option Int) (left : Int → Int → Bool) (cnt : Nat) : Prop :=
 ∃ (D : DataW Unit) (L : Lit → Bool), w.ranges Tryz.prog 105 (plainElem Tryz.prog 2) b r n D L cnt ∧ (∀ x y, Wf x → Wf y → Maps.has D (kp x y) = (m x y).isSome ∧ D.atKey (kp x y) (.lit (.int .i64 0)) = .lit (.int .i64 ((m x y).getD 0))) ∧ ∀ x y, Wf x → Wf y → L (kp x y) = left x y
theorem PR.pm {w : World} {b r n cnt : Nat} {m : Int → Int → Option Int} {left : Int → Int → Bool} (h : PR w b r n m left cnt) : PM w b n m := by
 obtain ⟨D, L, h1, h2, _⟩ := h
 exact ⟨D, h1.owns, h2⟩
theorem PR.ne {w : World} {b r n cnt : Nat} {m : Int → Int → Option Int} {left : Int → Int → Bool} (h : PR w b r n m left cnt) : r ≠ b := by
 obtain ⟨D, L, h1, _⟩ := h
 exact h1.ne
theorem PR.lt {w : World} {b r n cnt : Nat} {m : Int → Int → Option Int} {left : Int → Int → Bool} (h : PR w b r n m left cnt) : r < w.heap.size := by
 obtain ⟨D, L, h1, _⟩ := h
 exact h1.lt
theorem PR.left_eq {w : World} {b r n cnt : Nat} {m : Int → Int → Option Int} {left : Int → Int → Bool} (h : PR w b r n m left cnt) : w.rangeLeft b r = cnt := by
 obtain ⟨D, L, h1, _⟩ := h
 exact h1.left_eq
theorem PR.kept {w w' : World} {b r n cnt : Nat} {m : Int → Int → Option Int} {left : Int → Int → Bool} {row : Option Nat} (h : PR w b r n m left cnt) (hg : w.grownBy w' row) (hb : some b ≠ row) (hr : some r ≠ row) : PR w' b r n m left cnt := by
 obtain ⟨D, L, h1, r1⟩ := h
 exact ⟨D, L, h1.kept hg hb hr, r1⟩
theorem PR.later {w w' : World} {b r n cnt : Nat} {m : Int → Int → Option Int} {left : Int → Int → Bool} (h : PR w b r n m left cnt) (hb : Below w.heap.size w w') : PR w' b r n m left cnt :=
 h.kept (row := none) ⟨hb.os, hb.tape, hb.output, hb.size, fun i hi _ => hb.block i hi⟩ (by simp) (by simp)
theorem PR.congr {w : World} {b r n cnt : Nat} {m : Int → Int → Option Int} {left left' : Int → Int → Bool} (h : PR w b r n m left cnt) (e : ∀ x y, left x y = left' x y) : PR w b r n m left' cnt := by
 obtain ⟨D, L, h1, r1, r2⟩ := h
 exact ⟨D, L, h1, r1, fun x y hx hy => by rw [r2 x y hx hy, e]⟩
/-- 'left' without one key. -/
def strike (left : Int → Int → Bool) (x y : Int) : Int → Int → Bool := fun p q => left p q && !decide (p = x ∧ q = y)
theorem wpList_prange (w : World) {ops : Array Oper} {rest : List Oper} {o : Oper} {a : Act} {Q : Exit → Act → World → Prop} (hg : o.guard = none) (mo : Operand) (hop : o.op = Op.range 101 mo)
  (b n : Nat) (m : Int → Int → Option Int) (hm : a.eval mo = .map (some b)) (h : PM w b n m)
  (hK : ∀ w' cnt, cnt ≤ n → PR w' b w.heap.size n m (fun x y => (m x y).isSome) cnt → Below w.heap.size w w' → w'.heap.size = w.heap.size + 1 → wpList Tryz.prog ops Q rest (a.put o.dst (.pointer (some ⟨w.heap.size, 0, none⟩))) w') :
  wpList Tryz.prog ops Q (o :: rest) a w := by
 obtain ⟨D, h1, h2⟩ := h
 refine wpList_range_own w hg mo 101 hop _ _ placeKeyed Tryz.underlying101 _ b n D hm h1 ?_
 intro w' hr hgw hs
 refine hK w' (Maps.size D) h1.size_le ⟨D, Maps.has D, hr, h2, fun x y hx hy => (h2 x y hx hy).1⟩ ?_ hs
 exact ⟨hgw.os, hgw.tape, hgw.output, hgw.size, fun i hi => hgw.block i hi (by simp)⟩
theorem wpList_pnext (w : World) {ops : Array Oper} {rest : List Oper} {o : Oper} {a : Act} {Q : Exit → Act → World → Prop} (hg : o.guard = none) (it : Operand) (hop : o.op = Op.next it false)
  (b r n : Nat) (m : Int → Int → Option Int) (left : Int → Int → Bool) (cnt : Nat) (hit : a.eval it = .pointer (some ⟨r, 0, none⟩)) (h : PR w b r n m left cnt) (hle : ∀ x y, Wf x → Wf y → left x y = true → (m x y).isSome = true)
  (hDone : (∀ x y, Wf x → Wf y → left x y = false) → wpList Tryz.prog ops Q rest (a.put o.dst (.tuple #[.bool false])) w)
  (hMore : ∀ (x y c : Int) (w' : World) (cnt' : Nat), Wf x → Wf y → Wf c → left x y = true → m x y = some c → PR w' b r n m (strike left x y) cnt' → cnt' < cnt → w.grownBy w' (some r) → w'.heap.size = w.heap.size →
   (Instr.entry (.pointer (some ⟨r, 0, none⟩))).run Tryz.prog w' = .ok (.tuple #[.agg #[.int .i64 x, .int .i64 y], .int .i64 c]) w' → wpList Tryz.prog ops Q rest (a.put o.dst (.tuple #[.bool true, .agg #[.int .i64 x, .int .i64 y], .int .i64 c])) w') :
  wpList Tryz.prog ops Q (o :: rest) a w := by
 obtain ⟨D, L, h1, h2, h3⟩ := h
 refine wpList_next_ranges (α := Int × Int) (β := Int) w hg it hop _ placeKeyed _ (fun p => .agg #[.int .i64 p.1, .int .i64 p.2]) (Value.int .i64) (fun key kl hk => by obtain ⟨x, y, e, _⟩ := keyOf_place_inv hk; exact ⟨(x, y), e⟩) (fun v y hv => by obtain ⟨c, e, _⟩ := plainElem_int_inv Tryz.underlying2 hv; exact ⟨c, e⟩) b r n D L cnt hit h1 ?_ ?_
 ·intro _ hl
  exact hDone fun x y hx hy => by rw [← h3 x y hx hy]; exact hl _
 ·rintro ⟨x, y⟩ c kl z w' cnt' hkey hl hv hat hr hlt hgw hs hen
  obtain ⟨x', y', e, rfl, hx, hy⟩ := keyOf_place_inv hkey
  simp at e
  obtain ⟨rfl, rfl⟩ := e
  obtain ⟨c', e, rfl, hc⟩ := plainElem_int_inv Tryz.underlying2 hv
  simp at e
  subst e
  have hl' : left x y = true := by rw [← h3 x y hx hy]; exact hl
  have hsome := hle x y hx hy hl'
  have hat' := (h2 x y hx hy).2
  rw [hat] at hat'
  simp at hat'
  have hm : m x y = some c := by
   obtain ⟨u, hu⟩ := Option.isSome_iff_exists.1 hsome
   rw [hu] at hat' ⊢
   simp at hat'
   rw [hat']
  refine hMore x y c w' cnt' hx hy hc hl' hm ⟨D, _, hr, h2, fun p q hp hq => ?_⟩ hlt hgw hs hen
  rw [h3 p q hp hq, kp_same hp hq hx hy]
  rfl
end

section
open Go.RowKit Go.Sort Go.Shelf Go.Lib
theorem sortCell_any (B n : Nat) (F : Nat → Int) (v : Value) (w : World) (h : Row w B 3 n F v) (hf : Free w (n * 3) v) (hn : n ≤ 1048576) :
  Calls Tryz.prog 105 #[v, .func (.func 92) #[] #[]] w fun e w' => e = .returned (.tuple #[]) ∧ ∃ d : Array (List Int), d.size = n ∧ (d.toList.Perm (rowD 3 n F).toList ∧ SortedIn (ltOf (cf2 (fun x => x.getD 0 0) (fun x => x.getD 1 0))) 0 n d) ∧ (Row w' B 3 n (rowF 3 d) v ∧ Free w' (n * 3) v) ∧ w.grownBy w' (turn n v) := by
 obtain ⟨ao, cp, rfl⟩ := h.form
 rcases Nat.eq_zero_or_pos n with e | e
 ·subst e
  have hcon := AnyF.slices_SortFunc_none Tryz.sortCell ao cp (.func (.func 92) #[] #[]) w
  change Calls Tryz.prog 105 _ _ _ at hcon
  refine hcon.mono ?_
  rintro e w' ⟨rfl, rfl⟩
  refine ⟨rfl, #[], rfl, ⟨by simp [rowD], fun i j _ hij hj => by omega⟩, ⟨⟨_, _, rfl, fun q => absurd q (Nat.lt_irrefl 0)⟩, by rw [Nat.zero_mul]; exact Free.of0 _ _⟩, ⟨rfl, rfl, rfl, Nat.le_refl _, fun _ _ _ => rfl⟩⟩
 ·obtain ⟨g, o, rfl, hB, hg, _⟩ := h.at e
  refine (sortCell_is B n g o cp F w h hf hB hg hn).mono ?_
  rintro e' w' ⟨rfl, d, h1, h2, h3, h4⟩
  refine ⟨rfl, d, h1, h2, h3, ?_⟩
  have : turn n (.slice (some ⟨g, o, none⟩) n cp) = some g := by unfold turn; rw [if_neg (by omega)]; rfl
  rw [this]
  exact h4
/-- The entries of a map that have come: all that are not left, each once. -/
def Col3 (m : Int → Int → Option Int) (left : Int → Int → Bool) (L : List (List Int)) : Prop :=
 (∀ t ∈ L, ∃ x y v, t = [x, y, v] ∧ Wf x ∧ Wf y ∧ m x y = some v ∧ left x y = false) ∧ (∀ x y v, Wf x → Wf y → m x y = some v → left x y = false → [x, y, v] ∈ L) ∧ L.Nodup ∧ ∀ x y, left x y = true → (m x y).isSome = true
theorem Col3.start (m : Int → Int → Option Int) : Col3 m (fun x y => (m x y).isSome) [] := by
 refine ⟨fun t ht => absurd ht (by simp), fun x y v _ _ h h' => ?_, by simp, fun _ _ h => h⟩
 have h2 : (m x y).isSome = false := h'
 rw [h] at h2
 simp at h2
theorem Col3.len {m : Int → Int → Option Int} {left : Int → Int → Bool} {L : List (List Int)} (h : Col3 m left L) : ∀ t ∈ L, t.length = 3 := fun t ht => by
 obtain ⟨x, y, v, rfl, _⟩ := h.1 t ht
 rfl
theorem Col3.step {m : Int → Int → Option Int} {left : Int → Int → Bool} {L : List (List Int)} (h : Col3 m left L) {x y c : Int} (hx : Wf x) (hy : Wf y) (hl : left x y = true) (hm : m x y = some c) : Col3 m (strike left x y) (L ++ [[x, y, c]]) := by
 refine ⟨fun t ht => ?_, fun p q v hp hq h1 h2 => ?_, ?_, fun p q h1 => ?_⟩
 ·rcases List.mem_append.1 ht with ht | ht
  ·obtain ⟨p, q, v, rfl, h1, h2, h3, h4⟩ := h.1 t ht
   exact ⟨p, q, v, rfl, h1, h2, h3, by unfold strike; rw [h4]; rfl⟩
  ·simp at ht
   subst ht
   exact ⟨x, y, c, rfl, hx, hy, hm, by simp [strike]⟩
 ·by_cases e : p = x ∧ q = y
  ·obtain ⟨rfl, rfl⟩ := e
   rw [hm] at h1
   simp at h1
   subst h1
   simp
  ·refine List.mem_append.2 (Or.inl (h.2.1 p q v hp hq h1 ?_))
   unfold strike at h2
   rw [decide_eq_false e] at h2
   simpa using h2
 ·refine List.nodup_append.2 ⟨h.2.2.1, by simp, ?_⟩
  intro a ha b hb e
  simp at hb
  subst hb
  subst e
  obtain ⟨p, q, v, e, _, _, _, h4⟩ := h.1 _ ha
  simp at e
  obtain ⟨rfl, rfl, _⟩ := e
  rw [hl] at h4
  simp at h4
 ·unfold strike at h1
  exact h.2.2.2 p q (by simp at h1; exact h1.1)
/-- A row of cells that rises and has just what a map has. -/
structure MapRow (m : Int → Int → Option Int) (nc : Nat) (c : Nat → Int) : Prop where
 rise : ∀ j, j < nc → ∀ i, i < j → pairLt (c (i * 3)) (c (i * 3 + 1)) (c (j * 3)) (c (j * 3 + 1))
 wf : ∀ i, i < nc → Wf (c (i * 3)) ∧ Wf (c (i * 3 + 1))
 has : ∀ i, i < nc → m (c (i * 3)) (c (i * 3 + 1)) = some (c (i * 3 + 2))
 all : ∀ x y v, Wf x → Wf y → m x y = some v → ∃ i, i < nc ∧ c (i * 3) = x ∧ c (i * 3 + 1) = y ∧ c (i * 3 + 2) = v
theorem rowD_list (m n : Nat) (F : Nat → Int) : (rowD m n F).toList = (List.range n).map (struD F m) := by
 unfold rowD struD
 simp
theorem struD_three (c : Nat → Int) (i : Nat) : struD c 3 i = [c (i * 3), c (i * 3 + 1), c (i * 3 + 2)] := rfl
theorem MapRow.up {m : Int → Int → Option Int} {nc : Nat} {c : Nat → Int} (h : MapRow m nc c) : ((rowD 3 nc c).toList).Pairwise (Lt2 (fun x => x.getD 0 0) (fun x => x.getD 1 0)) := by
 rw [rowD_list, List.pairwise_map, List.pairwise_iff_getElem]
 intro i j hi hj hij
 simp at hi hj
 simp only [List.getElem_range]
 exact h.rise j hj i hij
theorem Lt2.nodup {k s : List Int → Int} {l : List (List Int)} (h : l.Pairwise (Lt2 k s)) : l.Nodup := h.imp (fun {a b} h e => h.ne (by subst e; exact ⟨rfl, rfl⟩))
theorem MapRow.perm {m : Int → Int → Option Int} {nc : Nat} {c : Nat → Int} (h : MapRow m nc c) {left : Int → Int → Bool} {L : List (List Int)} (hL : Col3 m left L) (hd : ∀ x y, Wf x → Wf y → left x y = false) : L.Perm (rowD 3 nc c).toList := by
 refine (List.perm_ext_iff_of_nodup hL.2.2.1 (Lt2.nodup h.up)).2 (fun t => ?_)
 rw [rowD_list, List.mem_map]
 constructor
 ·intro ht
  obtain ⟨x, y, v, rfl, hx, hy, hm, _⟩ := hL.1 t ht
  obtain ⟨i, hi, rfl, rfl, rfl⟩ := h.all x y v hx hy hm
  exact ⟨i, List.mem_range.2 hi, struD_three c i⟩
 ·rintro ⟨i, hi, rfl⟩
  have hi' := List.mem_range.1 hi
  rw [struD_three]
  exact hL.2.1 _ _ _ (h.wf i hi').1 (h.wf i hi').2 (h.has i hi') (hd _ _ (h.wf i hi').1 (h.wf i hi').2)
theorem rowD_flat {m : Nat} (hm : 0 < m) (L : List (List Int)) (hL : ∀ t ∈ L, t.length = m) : (rowD m L.length (fun p => L.flatten.getD p 0)).toList = L := by
 rw [rowD_list]
 apply List.ext_getElem (by simp)
 intro i h1 h2
 have hi : i < L.length := h2
 simp only [List.getElem_map, List.getElem_range]
 apply List.ext_getElem
 ·rw [struD_len, hL _ (List.getElem_mem _)]
 ·intro q h3 h4
  have hq : q < m := by rw [struD_len] at h3; exact h3
  have hlt : i * m + q < L.length * m := by
   calc i * m + q < i * m + m := by omega
    _ = (i + 1) * m := by rw [Nat.succ_mul]
    _ ≤ L.length * m := Nat.mul_le_mul_right m hi
  have e := flat_get (m := m) L (i * m + q) hL hlt
  have d1 : (i * m + q) / m = i := by rw [Nat.mul_comm, Nat.mul_add_div hm, Nat.div_eq_of_lt hq, Nat.add_zero]
  have d2 : (i * m + q) % m = q := by rw [Nat.mul_comm, Nat.mul_add_mod, Nat.mod_eq_of_lt hq]
  rw [d1, d2] at e
  have s1 : (struD (fun p => L.flatten.getD p 0) m i)[q] = L.flatten.getD (i * m + q) 0 := by simp [struD]
  rw [s1, e]
  simp [hi, hL _ (List.getElem_mem hi), hq]
/-- What the sort of a map's entries leaves. -/
theorem MapRow.sorted {m : Int → Int → Option Int} {nc : Nat} {c : Nat → Int} (h : MapRow m nc c) {left : Int → Int → Bool} {L : List (List Int)} (hL : Col3 m left L) (hd : ∀ x y, Wf x → Wf y → left x y = false) : L.length = nc ∧ ∀ d : Array (List Int), d.size = L.length → d.toList.Perm (rowD 3 L.length (fun p => L.flatten.getD p 0)).toList → SortedIn (ltOf (cf2 (fun x => x.getD 0 0) (fun x => x.getD 1 0))) 0 L.length d → ∀ t, t < nc * 3 → rowF 3 d t = c t := by
 have hp := h.perm hL hd
 have hlen : L.length = nc := by rw [hp.length_eq, Array.length_toList, rowD_size]
 refine ⟨hlen, fun d h1 h2 h3 t ht => ?_⟩
 rw [rowD_flat (by omega) L hL.len] at h2
 have e := sorted_is h1 h3 (h2.trans hp) h.up
 have e2 : d = rowD 3 nc c := by
  apply Array.ext'
  exact e
 rw [e2]
 exact rowF_rowD 3 nc c t ht
theorem puts_some {p q v : Nat → Int} {x y u : Int} : ∀ {n : Nat}, puts p q v n x y = some u → ∃ i, i < n ∧ p i = x ∧ q i = y ∧ v i = u
 | 0, h => by simp [puts] at h
 | n + 1, h => by
  unfold puts putM at h
  by_cases e : x = p n ∧ y = q n
  ·rw [if_pos e] at h
   simp at h
   exact ⟨n, by omega, e.1.symm, e.2.symm, h⟩
  ·rw [if_neg e] at h
   obtain ⟨i, hi, r⟩ := puts_some h
   exact ⟨i, by omega, r⟩
theorem cellM_some {S : Sto} {x y u : Int} (h : cellM S S.nc x y = some u) : ∃ i, i < S.nc ∧ S.c (i * 3) = x ∧ S.c (i * 3 + 1) = y ∧ S.c (i * 3 + 2) = u := puts_some h
end
end Go.Proofs.YtiadbiiiikhfaaaGreatDoor

namespace Go.Proofs.YtiadbiiiikhfaaaGreatDoor
open Go.RowKit Go.Maps Go.Sort Go.Shelf Go.Lib

theorem run_copy (t ty e : TypeId) (i : TypeInfo) (z : Value) (m bytes : Nat) (ht : Tryz.prog.underlying t = some (.slice e)) (hi : Tryz.prog.info? e = some i) (hz : i.zero = some z) (hsize : i.size = m) (hby : i.bytes = bytes) (hzs : z.cells.size = m) (hm : 0 < m) (hb5 : bytes ≤ 1000)
  (w : World) (B n : Nat) (F : Nat → Int) (v : Value) (h : Own w B e m n F v) (hn : n ≤ 1048576) : ∃ v' w', (Builtin.append_ #[t, t] ty #[.slice none 0 0, v]).run Tryz.prog w = .ok v' w' ∧ Own w' w.heap.size e m n F v' ∧ Below w.heap.size w w' := by
 have hr := h.row.1
 rcases h.2 with ⟨rfl, rfl⟩ | ⟨g, cap, cur, rfl, hg, hw, _⟩
 ·exact ⟨_, _, run_append_owned_none (P := Tryz.prog) w w.heap.size t ty e i m ht hi _ 0 [] ⟨by simp, Or.inl ⟨rfl, rfl⟩⟩, Own.nil _ _ _ _ _, Below.refl _ _⟩
 ·have hbb : n * bytes ≤ 1048576 * 1000 := Nat.mul_le_mul hn hb5
  obtain ⟨v', w', h1, h2, h3, _⟩ := run_append_own (P := Tryz.prog) w w.heap.size t ty e i z m bytes ht hi hz hsize hby hzs hm (.slice none 0 0) 0 [] ⟨by simp, Or.inl ⟨rfl, rfl⟩⟩ ⟨g, 0, none⟩ n cap (vals F (n * m)) (vals_length _ _) (row_cells hr) (vals_one _ _) (by unfold maxLen; omega) (by rw [Nat.zero_add]; omega) (Nat.le_refl _)
  refine ⟨v', w', h1, ?_, ⟨h3.os, h3.tape, h3.output, h3.size, fun i hi => h3.block i hi (by simp [Value.ownBlock])⟩⟩
  simpa [Own] using h2
/-- 'append([]T(nil), row...)' at a step of a region that draws its order. -/
theorem step_copy {ops : Array Oper} {o : Oper} {a : Act} {K : Act → World → Prop} {Q : Exit → Act → World → Prop} {E : Prop} (hgd : o.guard = none) (x : Operand) (t : TypeId) (ho : o.op = .call { callee := .builtin .append, args := #[.const (.slice none 0 0), x], argTypes := #[t, t] })
  (e : TypeId) (i : TypeInfo) (z : Value) (m bytes : Nat) (ht : Tryz.prog.underlying t = some (.slice e)) (hi : Tryz.prog.info? e = some i) (hz : i.zero = some z) (hsize : i.size = m) (hby : i.bytes = bytes) (hzs : z.cells.size = m) (hm : 0 < m) (hb5 : bytes ≤ 1000)
  (w : World) (B n : Nat) (F : Nat → Int) (v : Value) (hx : a.eval x = v) (h : Own w B e m n F v) (hn : n ≤ 1048576) (hK : ∀ v' w', Own w' w.heap.size e m n F v' → Below w.heap.size w w' → K (a.put o.dst v') w') :
  if Region.wanted o (yielded ops a.tmps) = true then Oper.wp Tryz.prog o a w K Q else E := by
 have hw : Region.wanted o (yielded ops a.tmps) = true := by simp [Region.wanted, hgd]
 rw [if_pos hw]
 obtain ⟨v', w', hr, h2, h3⟩ := run_copy t o.type e i z m bytes ht hi hz hsize hby hzs hm hb5 w B n F v h hn
 have hc : a.eval (.const (.slice none 0 0)) = .slice none 0 0 := rfl
 unfold Oper.wp execOp
 simp only [ho, resolve, invoke, builtin, Sem.run_bind, Sem.run_pure, Result.andThen_ok, List.map_toArray, List.map_cons, List.map_nil, hc, hx, hr]
 exact hK v' w' h2 h3
theorem grown_set (w : World) (a : Addr) (u : Value) : w.grownBy (w.setCell a u) (some a.block) := ⟨rfl, rfl, rfl, by simp, fun i _ hne => Below.heap_setCell w a u i (fun e => hne (by rw [e]))⟩
/-- What store stands on behind its copies: the columns; its answer (the first new block); its own store (block b3), of which two rows are done. -/
structure Leaf (w : World) (b oo N : Nat) (m : Int → Int → Option Int) (nl : Nat) (l : Nat → Int) (nw : Nat) (k : Nat → Int) (g : Nat) (u1 u2 : Value) (b3 : Nat) (q0 q1 q2 r1 r2 : Value) (x : World) : Prop where
 cols : Blk3O x b oo (.map (some g)) u1 u2
 pm : PM x g N m
 gl : g < w.heap.size
 res : Blk3 x w.heap.size (.slice none 0 0) (.slice none 0 0) (.slice none 0 0)
 own : Blk3 x b3 q0 q1 q2
 lo : w.heap.size < b3
 bl : b < w.heap.size
 s1 : Own x (w.heap.size + 1) 40 5 nl l r1
 s2 : Own x (w.heap.size + 1) 55 4 nw k r2
 a1 : r1.ownBlock ≠ some b3
 a2 : r2.ownBlock ≠ some b3
 a12 : ∀ q, r1.ownBlock = some q → r2.ownBlock ≠ some q
 below : Below w.heap.size w x
theorem Leaf.later {w : World} {b oo N : Nat} {m : Int → Int → Option Int} {nl : Nat} {l : Nat → Int} {nw : Nat} {k : Nat → Int} {g : Nat} {u1 u2 : Value} {b3 : Nat} {q0 q1 q2 r1 r2 : Value} {x x' : World} (h : Leaf w b oo N m nl l nw k g u1 u2 b3 q0 q1 q2 r1 r2 x) (hb : Below x.heap.size x x') : Leaf w b oo N m nl l nw k g u1 u2 b3 q0 q1 q2 r1 r2 x' :=
 ⟨h.cols.later hb, h.pm.later hb, h.gl, h.res.later hb, h.own.later hb, h.lo, h.bl, h.s1.later hb, h.s2.later hb, h.a1, h.a2, h.a12, h.below.trans (hb.mono h.below.size)⟩
theorem Own.block {w : World} {B : Nat} {e : TypeId} {m n : Nat} {F : Nat → Int} {v : Value} (h : Own w B e m n F v) : ∀ k, v.ownBlock = some k → B ≤ k ∧ k < w.heap.size := own_in h
theorem Own.kept {w w' : World} {B : Nat} {e : TypeId} {m n : Nat} {F : Nat → Int} {v : Value} (h : Own w B e m n F v) (hb : ∀ k, v.ownBlock = some k → w'.heap[k]? = w.heap[k]?) : Own w' B e m n F v := by
 refine ⟨h.1, ?_⟩
 rcases h.2 with q | ⟨g, cap, cur, rfl, hg, hw, r⟩
 ·exact Or.inl q
 ·exact Or.inr ⟨g, cap, cur, rfl, hg, (hb g rfl).trans hw, r⟩
theorem Leaf.put {w : World} {b oo N : Nat} {m : Int → Int → Option Int} {nl : Nat} {l : Nat → Int} {nw : Nat} {k : Nat → Int} {g : Nat} {u1 u2 : Value} {b3 : Nat} {q0 q1 q2 r1 r2 : Value} {x : World} (h : Leaf w b oo N m nl l nw k g u1 u2 b3 q0 q1 q2 r1 r2 x) (a0 a1 a2 : Value) :
  Leaf w b oo N m nl l nw k g u1 u2 b3 a0 a1 a2 r1 r2 (((x.setCell ⟨b3, 0, none⟩ a0).setCell ⟨b3, 1, none⟩ a1).setCell ⟨b3, 2, none⟩ a2) := by
 have hb : ∀ i, i ≠ b3 → (((x.setCell ⟨b3, 0, none⟩ a0).setCell ⟨b3, 1, none⟩ a1).setCell ⟨b3, 2, none⟩ a2).heap[i]? = x.heap[i]? := fun i hi => (Below.heap_setCell _ _ _ i hi).trans ((Below.heap_setCell _ _ _ i hi).trans (Below.heap_setCell _ _ _ i hi))
 have h1 := h.lo
 have h2 := h.gl
 have h3 := h.bl
 exact ⟨h.cols.kept (hb _ (by omega)), h.pm.kept (hb _ (by omega)), h.gl, h.res.kept (hb _ (by omega)), ((h.own.set0 a0).set1 a1).set2 a2, h.lo, h.bl, h.s1.kept (fun q hq => hb q (fun e => h.a1 (by rw [hq, e]))), h.s2.kept (fun q hq => hb q (fun e => h.a2 (by rw [hq, e]))), h.a1, h.a2, h.a12, ((h.below.setCell (by simp; omega) _).setCell (by simp; omega) _).setCell (by simp; omega) _⟩
/-- x is y but for block b3, block r and what lies from Z on. -/
def Sam (y x : World) (Z b3 r : Nat) : Prop := (x.os = y.os ∧ x.tape = y.tape ∧ x.output = y.output) ∧ Z ≤ x.heap.size ∧ ∀ i, i < Z → i ≠ b3 → i ≠ r → x.heap[i]? = y.heap[i]?
theorem Sam.step {y x x' : World} {Z b3 r : Nat} {row : Option Nat} (h : Sam y x Z b3 r) (hg : x.grownBy x' row) (hq : ∀ q, row = some q → q = b3 ∨ q = r ∨ Z ≤ q) : Sam y x' Z b3 r :=
 ⟨⟨hg.os.trans h.1.1, hg.tape.trans h.1.2.1, hg.output.trans h.1.2.2⟩, Nat.le_trans h.2.1 hg.size, fun i h1 h2 h3 => (hg.block i (Nat.lt_of_lt_of_le h1 h.2.1) (fun e => by have := hq i e.symm; omega)).trans (h.2.2 i h1 h2 h3)⟩
theorem Sam.later {y x x' : World} {Z b3 r : Nat} (h : Sam y x Z b3 r) (hb : Below x.heap.size x x') : Sam y x' Z b3 r :=
 ⟨⟨hb.os.trans h.1.1, hb.tape.trans h.1.2.1, hb.output.trans h.1.2.2⟩, Nat.le_trans h.2.1 hb.size, fun i h1 h2 h3 => (hb.block i (Nat.lt_of_lt_of_le h1 h.2.1)).trans (h.2.2 i h1 h2 h3)⟩
/-- What a round of store's loop stands on. -/
structure Rnd (w y : World) (g r N : Nat) (m : Int → Int → Option Int) (b3 : Nat) (r1 r2 : Value) (left : Int → Int → Bool) (cnt : Nat) (v : Value) (L : List (List Int)) (x : World) : Prop where
 pr : PR x g r N m left cnt
 sam : Sam y x (r + 1) b3 r
 own : Blk3 x b3 v r1 r2
 row : OwnM x (r + 1) 93 3 v L.length L.flatten
 col : Col3 m left L
 len : L.length + cnt ≤ N
theorem Rnd.later {w y x x' : World} {g r N : Nat} {m : Int → Int → Option Int} {b3 : Nat} {r1 r2 : Value} {left : Int → Int → Bool} {cnt : Nat} {v : Value} {L : List (List Int)} (h : Rnd w y g r N m b3 r1 r2 left cnt v L x) (hb : Below x.heap.size x x') : Rnd w y g r N m b3 r1 r2 left cnt v L x' :=
 ⟨h.pr.later hb, h.sam.later hb, h.own.later hb, h.row.later hb, h.col, h.len⟩
/-- The iterator goes on. -/
theorem Rnd.next {w y x x' : World} {g r N : Nat} {m : Int → Int → Option Int} {b3 : Nat} {r1 r2 : Value} {left : Int → Int → Bool} {cnt cnt' : Nat} {v : Value} {L : List (List Int)} (h : Rnd w y g r N m b3 r1 r2 left cnt v L x) (hb : b3 < r) {left' : Int → Int → Bool} (hp : PR x' g r N m left' cnt') (hg : x.grownBy x' (some r)) :
  (PR x' g r N m left' cnt' ∧ Sam y x' (r + 1) b3 r) ∧ Blk3 x' b3 v r1 r2 ∧ OwnM x' (r + 1) 93 3 v L.length L.flatten :=
 ⟨⟨hp, h.sam.step hg (fun q e => by simp at e; omega)⟩, h.own.kept (hg.block b3 h.own.lt (by simp; omega)), h.row.kept (fun i h1 h2 => hg.block i h2 (by simp; omega))⟩
/-- The cell is appended, and the row stored. -/
theorem Rnd.put {w y x x' : World} {g r N : Nat} {m : Int → Int → Option Int} {b3 : Nat} {r1 r2 : Value} {left : Int → Int → Bool} {cnt : Nat} {v v' : Value} {L : List (List Int)} {p q c : Int} (hg3 : g < b3) (hb3 : b3 < r)
  (hp : (PR x g r N m (strike left p q) cnt ∧ Sam y x (r + 1) b3 r) ∧ Blk3 x b3 v r1 r2 ∧ OwnM x (r + 1) 93 3 v L.length L.flatten) (hc : Col3 m left L) (hx : Wf p) (hy : Wf q) (hl : left p q = true) (hm : m p q = some c) (hn : L.length + 1 + cnt ≤ N)
  (ho : x'.ownsRow (r + 1) 93 3 v' (L.length + 1) (L.flatten.map (Value.int .i64) ++ [.int .i64 p, .int .i64 q, .int .i64 c])) (hg : x.grownBy x' v.ownBlock) :
  Rnd w y g r N m b3 r1 r2 (strike left p q) cnt v' (L ++ [[p, q, c]]) (x'.setCell ⟨b3, 0, none⟩ v') := by
 have hv : ∀ j, v.ownBlock = some j → r + 1 ≤ j := fun j hj => (hp.2.2.block j hj).1
 have k1 : some g ≠ v.ownBlock := fun e => by have := hv g e.symm; omega
 have k2 : some r ≠ v.ownBlock := fun e => by have := hv r e.symm; omega
 have k3 : some b3 ≠ v.ownBlock := fun e => by have := hv b3 e.symm; omega
 have ho' : OwnM x' (r + 1) 93 3 v' (L.length + 1) (L ++ [[p, q, c]]).flatten := by
  unfold OwnM
  rw [List.flatten_append, List.map_append]
  exact ho
 refine ⟨(hp.1.1.kept hg k1 k2).kept (grown_set _ _ _) (by simp; omega) (by simp; omega), (hp.1.2.step hg (fun j e => Or.inr (Or.inr (hv j e)))).step (grown_set _ _ _) (fun j e => by simp at e; omega), (hp.2.1.kept (hg.block b3 hp.2.1.lt k3)).set0 v', ?_, hc.step hx hy hl hm, by simp; omega⟩
 rw [List.length_append]
 exact ho'.far (by simp; omega) _
theorem flatten_len {m : Nat} : ∀ (L : List (List Int)), (∀ t ∈ L, t.length = m) → L.flatten.length = L.length * m
 | [], _ => by simp
 | x :: r, h => by
  rw [List.flatten_cons, List.length_append, h x List.mem_cons_self, flatten_len r (fun t ht => h t (List.mem_cons_of_mem _ ht)), List.length_cons, Nat.succ_mul, Nat.add_comm]
theorem apart_mk {w : World} {B0 B1 : Nat} {S : Sto} {u0 u1 u2 : Value} (r0 : Row w B0 3 S.nc S.c u0) (r1 : Row w B1 5 S.nl S.l u1) (h1 : ∀ i j, u0.ownBlock = some i → u1.ownBlock = some j → i ≠ j) (h2 : ∀ i j, u0.ownBlock = some i → u2.ownBlock = some j → i ≠ j) (h3 : ∀ i j, u1.ownBlock = some i → u2.ownBlock = some j → i ≠ j) : ApartD S u0 u1 u2 := by
 have own : ∀ {B m n : Nat} {F : Nat → Int} {u : Value}, Row w B m n F u → 0 < n → ∃ k, u.ownBlock = some k := fun hr hn => by
  obtain ⟨ao, cp, rfl, hr⟩ := hr
  obtain ⟨g, o, rfl, _⟩ := hr hn
  exact ⟨g, rfl⟩
 refine ⟨fun ha hb e => ?_, fun ha hb e => ?_, fun ha hb e => ?_⟩
 ·obtain ⟨k, hk⟩ := own r0 ha
  exact h1 k k hk (e ▸ hk) rfl
 ·obtain ⟨k, hk⟩ := own r0 ha
  exact h2 k k hk (e ▸ hk) rfl
 ·obtain ⟨k, hk⟩ := own r1 ha
  exact h3 k k hk (e ▸ hk) rfl
/-- What the copies find: all of Leaf that was there ahead of them. -/
structure Pre (w : World) (b oo N : Nat) (m : Int → Int → Option Int) (g : Nat) (u1 u2 : Value) (x : World) : Prop where
 cols : Blk3O x b oo (.map (some g)) u1 u2
 pm : PM x g N m
 gl : g < w.heap.size
 res : Blk3 x w.heap.size (.slice none 0 0) (.slice none 0 0) (.slice none 0 0)
 bl : b < w.heap.size
 below : Below w.heap.size w x
theorem Pre.later {w : World} {b oo N : Nat} {m : Int → Int → Option Int} {g : Nat} {u1 u2 : Value} {x x' : World} (h : Pre w b oo N m g u1 u2 x) (hb : Below x.heap.size x x') : Pre w b oo N m g u1 u2 x' :=
 ⟨h.cols.later hb, h.pm.later hb, h.gl, h.res.later hb, h.bl, h.below.trans (hb.mono h.below.size)⟩
theorem Pre.leaf {w : World} {b oo N : Nat} {m : Int → Int → Option Int} {g : Nat} {u1 u2 : Value} {x : World} (h : Pre w b oo N m g u1 u2 x) {b3 : Nat} {q0 q1 q2 : Value} (ho : Blk3 x b3 q0 q1 q2) (hlo : w.heap.size < b3) {nl : Nat} {l : Nat → Int} {nw : Nat} {k : Nat → Int} {r1 r2 : Value} (h1 : Own x (w.heap.size + 1) 40 5 nl l r1) (h2 : Own x (w.heap.size + 1) 55 4 nw k r2)
  (a1 : ∀ j, r1.ownBlock = some j → j ≠ b3) (a2 : ∀ j, r2.ownBlock = some j → j ≠ b3) (a12 : ∀ i j, r1.ownBlock = some i → r2.ownBlock = some j → i ≠ j) : Leaf w b oo N m nl l nw k g u1 u2 b3 q0 q1 q2 r1 r2 x :=
 ⟨h.cols, h.pm, h.gl, h.res, ho, hlo, h.bl, h1, h2, fun e => a1 b3 e rfl, fun e => a2 b3 e rfl, fun q e e' => a12 q q e e' rfl, h.below⟩
theorem size_drew (w : World) (o : Obj) : (w.alloc o).drew.heap.size = w.heap.size + 1 := by simp
/-- What the copying region stands on: the columns' block. -/
def ColBox (w : World) (b oo : Nat) (v0 v1 v2 : Value) (x : World) : Prop := Blk3O x b oo v0 v1 v2 ∧ Below w.heap.size w x
theorem ColBox.later {w x x' : World} {b oo : Nat} {v0 v1 v2 : Value} (h : ColBox w b oo v0 v1 v2 x) (hb : Below x.heap.size x x') : ColBox w b oo v0 v1 v2 x' := ⟨h.1.later hb, h.2.trans (hb.mono h.2.size)⟩
set_option maxRecDepth 100000 in
set_option maxHeartbeats 16000000 in
theorem store_isO (B b oo N : Nat) (m : Int → Int → Option Int) (nl : Nat) (l : Nat → Int) (nw : Nat) (k : Nat → Int) (g : Nat) (u1 u2 : Value) (w : World) (h : ColsO w B b oo N m nl l nw k g u1 u2) (hl : nl ≤ 200) (hw : nw ≤ 200) (hN : N ≤ 400) (nc : Nat) (c : Nat → Int) (hM : MapRow m nc c) :
  Calls Tryz.prog 77 #[.pointer (some ⟨b, oo, none⟩)] w (NewSto w ⟨nc, c, nl, l, nw, k⟩) := by
 unfold NewSto
 obtain ⟨b1, d1, rfl⟩ := h.2.2.2.2.1.form
 obtain ⟨b2, d2, rfl⟩ := h.2.2.2.2.2.form
 have H1 : Hid (Own w B 40 5 nl l (.slice b1 nl d1)) := h.2.2.2.2.1
 have H2 : Hid (Own w B 55 4 nw k (.slice b2 nw d2)) := h.2.2.2.2.2
 have HM : Hid (MapRow m nc c) := hM
 obtain ⟨i1, hi1, hz01, hz11, hz21⟩ := info_parts infoz_Lock
 obtain ⟨i2, hi2, hz02, hz12, hz22⟩ := info_parts infoz_Write
 obtain ⟨i0, hi, hz0, hz1, hz2⟩ := info_parts info_Cell
 have h0 : ColBox w b oo (.map (some g)) (.slice b1 nl d1) (.slice b2 nw d2) (w.alloc (.cells #[.slice none 0 0, .slice none 0 0, .slice none 0 0] 28)).drew := ⟨h.2.2.1.alloc _, (below_alloc _ _).drew⟩
 have HP0 : Hid (Pre w b oo N m g (.slice b1 nl d1) (.slice b2 nw d2) (w.alloc (.cells #[.slice none 0 0, .slice none 0 0, .slice none 0 0] 28)).drew) := ⟨h.2.2.1.alloc _, h.2.2.2.1.later (w' := (w.alloc (.cells #[.slice none 0 0, .slice none 0 0, .slice none 0 0] 28)).drew) (below_alloc _ _).drew, h.2.2.2.1.lt, Blk3.new w _ _ _ _, h.2.2.1.lt, (below_alloc _ _).drew⟩
 have HPB : Hid (Pre w b oo N m g (.slice b1 nl d1) (.slice b2 nw d2) ((w.alloc (.cells #[.slice none 0 0, .slice none 0 0, .slice none 0 0] 28)).alloc (.cells #[.slice none 0 0, .slice none 0 0, .slice none 0 0] 28)).drew) := ⟨(h.2.2.1.alloc _).alloc _, h.2.2.2.1.later (w' := ((w.alloc (.cells #[.slice none 0 0, .slice none 0 0, .slice none 0 0] 28)).alloc (.cells #[.slice none 0 0, .slice none 0 0, .slice none 0 0] 28)).drew) ((below_alloc _ _).alloc (by simp) _).drew, h.2.2.2.1.lt, (Blk3.new w _ _ _ _).alloc _, h.2.2.1.lt, ((below_alloc _ _).alloc (by simp) _).drew⟩
 have HBB : Hid (Blk3 ((w.alloc (.cells #[.slice none 0 0, .slice none 0 0, .slice none 0 0] 28)).alloc (.cells #[.slice none 0 0, .slice none 0 0, .slice none 0 0] 28)).drew (w.heap.size + 1) (.slice none 0 0) (.slice none 0 0) (.slice none 0 0)) := by have := Blk3.new (w.alloc (.cells #[.slice none 0 0, .slice none 0 0, .slice none 0 0] 28)) (.slice none 0 0) (.slice none 0 0) (.slice none 0 0) 28; rw [World.size_alloc] at this; exact this
 clear h hM
 go_enter Tryz.func77, Tryz.ntmps77
 go_wp2_with fail
 rename_i Kr hKr
 have rest : Hid (∀ (b3 : Nat) (e1 : Option Addr) (f1 : Nat) (e2 : Option Addr) (f2 : Nat) (y : World), Leaf w b oo N m nl l nw k g (.slice b1 nl d1) (.slice b2 nw d2) b3 (.slice none 0 0) (.slice e1 nl f1) (.slice e2 nw f2) (.slice e1 nl f1) (.slice e2 nw f2) y → Kr ⟨#[.pointer (some ⟨b, oo, none⟩), undef, .pointer (some ⟨w.heap.size, 0, none⟩), .pointer (some ⟨b3, 0, none⟩), undef, undef, .pointer (some ⟨b, oo, none⟩), .pointer (some ⟨b, oo, none⟩), .pointer (some ⟨b, oo + 1, none⟩), .slice b1 nl d1, .slice e1 nl f1, .pointer (some ⟨b, oo, none⟩), .pointer (some ⟨b, oo, none⟩), .pointer (some ⟨b, oo + 2, none⟩), .slice b2 nw d2, .slice e2 nw f2, .agg #[.slice none 0 0, .slice e1 nl f1, .slice e2 nw f2], undef, undef, undef, undef, undef, undef, undef, undef, undef, undef, undef, undef, undef, undef, undef, undef, undef, undef, undef, undef, undef, undef, undef, undef, undef], []⟩ y) := by
  intro b3 e1 f1 e2 f2 y hLf
  refine hKr _ _ ?_
  clear hKr h0 HP0 HPB HBB H1 H2
  have HLf : Hid (Leaf w b oo N m nl l nw k g (.slice b1 nl d1) (.slice b2 nw d2) b3 (.slice none 0 0) (.slice e1 nl f1) (.slice e2 nw f2) (.slice e1 nl f1) (.slice e2 nw f2) y) := hLf
  have p0 := hLf.cols.1.1
  have hP := hLf.pm
  clear hLf
  go_wp2_with (first | (at_range; refine wpList_prange _ rfl _ rfl g N m rfl hP ?_; intro w0 cnt hcnt hPR hB0 hs0) | go_in)
  go_frame
  have HL0 : Hid (Leaf w b oo N m nl l nw k g (.slice b1 nl d1) (.slice b2 nw d2) b3 (.slice none 0 0) (.slice e1 nl f1) (.slice e2 nw f2) (.slice e1 nl f1) (.slice e2 nw f2) w0) := HLf.out.later hB0
  have hbr : b3 < y.heap.size := HLf.out.own.lt
  obtain ⟨r, hr⟩ : ∃ r, y.heap.size = r := ⟨_, rfl⟩
  rw [hr] at hPR hs0 hbr
  rw [hr]
  have hg3 : g < b3 := by have := HLf.out.gl; have := HLf.out.lo; omega
  have hlo := HLf.out.lo
  have HY : Hid ((∀ q, (Value.slice e1 nl f1).ownBlock = some q → q < r) ∧ ∀ q, (Value.slice e2 nw f2).ownBlock = some q → q < r) := ⟨fun q e => by have := (HLf.out.s1.block q e).2; omega, fun q e => by have := (HLf.out.s2.block q e).2; omega⟩
  clear p0 hP hB0 HLf hr
  go_loopw [5] (fun _ wr => ∃ (left : Int → Int → Bool) (cnt : Nat) (v : Value) (L : List (List Int)), Hid (Rnd w w0 g r N m b3 (.slice e1 nl f1) (.slice e2 nw f2) left cnt v L wr)) (fun _ wr => wr.rangeLeft g r)
  case atStart => exact ⟨_, cnt, .slice none 0 0, [], hPR, ⟨⟨rfl, rfl, rfl⟩, by omega, fun _ _ _ _ => rfl⟩, HL0.out.own, OwnM.nil _ _ _ _, Col3.start m, by simpa using hcnt⟩
  case round =>
   clear hPR hcnt
   obtain ⟨left, cnt1, v, L, HR⟩ := hrel
   obtain ⟨ao, cp, rfl⟩ := HR.out.row.form
   have hpr := HR.out.pr
   have hcl : ∀ x y, Wf x → Wf y → left x y = true → (m x y).isSome = true := fun x y _ _ q => HR.out.col.2.2.2 x y q
   go_wp2_with (first | (at_next; refine wpList_pnext _ rfl _ rfl g r N m left cnt1 rfl hpr hcl ?_ ?_) | go_in)
   ·intro hdone
    have hsr := HM.out.sorted HR.out.col hdone
    obtain ⟨rfl, hsr2⟩ := hsr
    have HSR : Hid (∀ d : Array (List Int), d.size = L.length → d.toList.Perm (rowD 3 L.length (fun p => L.flatten.getD p 0)).toList → SortedIn (ltOf (cf2 (fun x => x.getD 0 0) (fun x => x.getD 1 0))) 0 L.length d → ∀ t, t < L.length * 3 → rowF 3 d t = c t) := hsr2
    have HO : Hid (Row wr (r + 1) 3 L.length (fun p => L.flatten.getD p 0) (.slice ao L.length cp) ∧ Free wr (L.length * 3) (.slice ao L.length cp)) := (HR.out.row.own (flatten_len L HR.out.col.len)).row
    have t0 := HR.out.own.1.1
    have hlN : L.length ≤ 400 := by have := HR.out.len; omega
    clear hdone hpr hcl hsr2
    go_wp2_with fail
    refine (sortCell_any (r + 1) L.length _ _ _ HO.out.1 HO.out.2 (by omega)).mono ?_
    rintro e w5 ⟨rfl, d, hd1, ⟨hd2, hd3⟩, hrow5, hg5⟩
    have hturn : ∀ q, turn L.length (.slice ao L.length cp) = some q → r + 1 ≤ q := turn_off (fun _ kk hk => (HR.out.row.block kk hk).1)
    have hsam := HR.out.sam.step hg5 (fun q e => Or.inr (Or.inr (hturn q e)))
    have hB5 := HR.out.own.kept (hg5.block b3 HR.out.own.lt (fun e => by have := hturn b3 e.symm; omega))
    have hres := HL0.out.res.kept (hsam.2.2 w.heap.size (by omega) (by omega) (by omega))
    have hk1 := HL0.out.s1.kept (fun q hq => hsam.2.2 q (by have := HY.out.1 q hq; omega) (fun e => HL0.out.a1 (by rw [hq, e])) (by have := HY.out.1 q hq; omega))
    have hk2 := HL0.out.s2.kept (fun q hq => hsam.2.2 q (by have := HY.out.2 q hq; omega) (fun e => HL0.out.a2 (by rw [hq, e])) (by have := HY.out.2 q hq; omega))
    have HBW : Hid (Below w.heap.size w w5) := ⟨hsam.1.1.trans HL0.out.below.os, hsam.1.2.1.trans HL0.out.below.tape, hsam.1.2.2.trans HL0.out.below.output, by have := hsam.2.1; omega, fun i hi => (hsam.2.2 i (by omega) (by omega) (by omega)).trans (HL0.out.below.block i hi)⟩
    have HK : Hid ((Row w5 (r + 1) 3 L.length c (.slice ao L.length cp) ∧ Free w5 (L.length * 3) (.slice ao L.length cp)) ∧ (Own w5 (w.heap.size + 1) 40 5 nl l (.slice e1 nl f1) ∧ Own w5 (w.heap.size + 1) 55 4 nw k (.slice e2 nw f2))) := ⟨⟨hrow5.1.congr (HSR.out d hd1 hd2 hd3), hrow5.2⟩, hk1, hk2⟩
    have HAP : Hid (ApartD ⟨L.length, c, nl, l, nw, k⟩ (.slice ao L.length cp) (.slice e1 nl f1) (.slice e2 nw f2)) := apart_mk HK.out.1.1 hk1.row.1 (fun i j hi hj => by have := (HR.out.row.block i hi).1; have := HY.out.1 j hj; omega) (fun i j hi hj => by have := (HR.out.row.block i hi).1; have := HY.out.2 j hj; omega) (fun i j hi hj e => HL0.out.a12 i hi (by rw [hj, e]))
    obtain ⟨⟨y0, y1, y2⟩, _⟩ := hB5
    obtain ⟨⟨s0, s1, s2⟩, g0, g1, g2⟩ := hres
    have hlw : w.heap.size < w.heap.size + 1 := Nat.lt_succ_self _
    have hlr : w.heap.size < r + 1 := by omega
    clear t0 hd1 hd2 hd3 hrow5 hg5 hturn hsam hk1 hk2 HSR HO HR
    go_wp2
    exact bodyPost_ret (v := .agg #[.slice ao L.length cp, .slice e1 nl f1, .slice e2 nw f2]) (by simp [results, Tryz.results77, go_sem, s0, s1, s2]) rfl ⟨ao, cp, e1, f1, e2, f2, rfl, ⟨⟨(((HK.out.1.1.far (Or.inl hlr) _).far (Or.inl hlr) _).far (Or.inl hlr) _).mono (by omega), (((HK.out.2.1.row.1.far (Or.inl hlw) _).far (Or.inl hlw) _).far (Or.inl hlw) _).mono (by omega), (((HK.out.2.2.row.1.far (Or.inl hlw) _).far (Or.inl hlw) _).far (Or.inl hlw) _).mono (by omega)⟩, ⟨((HK.out.1.2.far _ _).far _ _).far _ _, ((HK.out.2.1.row.2.far _ _).far _ _).far _ _, ((HK.out.2.2.row.2.far _ _).far _ _).far _ _⟩, HAP.out⟩, ((HBW.out.setCell (Nat.le_refl _) _).setCell (Nat.le_refl _) _).setCell (Nat.le_refl _) _⟩
   ·intro p q cc w1 cnt2 hx hy hc hlf hm hPR1 hlt hg1 hs1 hen
    have HN := HR.out.next hbr hPR1 hg1
    have hcl1 := HR.out.col
    have hlen : L.length + 1 + cnt2 ≤ N := by have := HR.out.len; omega
    have HLT : Hid (cnt2 < wr.rangeLeft g r) := by unfold Hid; rw [HR.out.pr.left_eq]; exact hlt
    have HX : Hid (((Wf p ∧ Wf q) ∧ left p q = true ∧ m p q = some cc) ∧ Col3 m left L) := ⟨⟨⟨hx, hy⟩, hlf, hm⟩, hcl1⟩
    have t0 := HN.2.1.1.1
    have zb : b3 < w1.heap.size := HN.2.1.lt
    have hbl := (below_alloc w1 (.cells #[.int .i64 p, .int .i64 q] 105)).alloc (by simp) (.cells #[.int .i64 p, .int .i64 q, .int .i64 cc] 93)
    have HN2 : Hid ((PR ((w1.alloc (.cells #[.int .i64 p, .int .i64 q] 105)).alloc (.cells #[.int .i64 p, .int .i64 q, .int .i64 cc] 93)) g r N m (strike left p q) cnt2 ∧ Sam w0 ((w1.alloc (.cells #[.int .i64 p, .int .i64 q] 105)).alloc (.cells #[.int .i64 p, .int .i64 q, .int .i64 cc] 93)) (r + 1) b3 r) ∧ Blk3 ((w1.alloc (.cells #[.int .i64 p, .int .i64 q] 105)).alloc (.cells #[.int .i64 p, .int .i64 q, .int .i64 cc] 93)) b3 (.slice ao L.length cp) (.slice e1 nl f1) (.slice e2 nw f2) ∧ OwnM ((w1.alloc (.cells #[.int .i64 p, .int .i64 q] 105)).alloc (.cells #[.int .i64 p, .int .i64 q, .int .i64 cc] 93)) (r + 1) 93 3 (.slice ao L.length cp) L.length L.flatten) := ⟨⟨HN.1.1.later hbl, HN.1.2.later hbl⟩, HN.2.1.later hbl, HN.2.2.later hbl⟩
    have hown := HN2.out.2.2
    clear hpr hcl HR hPR1 hg1 hlt hs1 HN hcl1 hx hy hlf hm hbl hc
    go_wp2_with (at_builtin; refine wpList_append_own _ rfl _ _ 24 rfl (r + 1) 93 i0 (.agg #[.int .i64 0, .int .i64 0, .int .i64 0]) 3 24 Tryz.underlying24 hi hz0 hz1 hz2 rfl (by decide) _ _ _ rfl hown ⟨_, 0, none⟩ 1 1 [.int .i64 p, .int .i64 q, .int .i64 cc] rfl rfl ?c1 ?c2 ?c3 ?c4 ?c5 ?_)
    case c1 =>
     intro j u hj
     match j, hj with
     | 0, hj => simp at hj; subst hj; simp [Addr.add]
     | 1, hj => simp at hj; subst hj; simp [Addr.add]
     | 2, hj => simp at hj; subst hj; simp [Addr.add]
    case c2 =>
     intro u hu
     simp at hu
     rcases hu with rfl | rfl | rfl <;> rfl
    case c3 => unfold maxLen; omega
    case c4 => omega
    case c5 => exact HN2.out.1.2.2.1
    intro v' w2 ho hg2 _
    rw [← List.map_flatten] at ho
    obtain ⟨ao', cp', rfl⟩ := (show OwnM w2 (r + 1) 93 3 v' (L.length + 1) (L.flatten ++ [p, q, cc]) from by unfold OwnM; rw [List.map_append]; exact ho).form
    have hvb : ∀ j, (Value.slice ao L.length cp).ownBlock = some j → r + 1 ≤ j := fun j hj => (HN2.out.2.2.block j hj).1
    have hB3 := HN2.out.2.1.kept (hg2.block b3 HN2.out.2.1.lt (fun e => by have := hvb b3 e.symm; omega))
    have HRn : Hid (Rnd w w0 g r N m b3 (.slice e1 nl f1) (.slice e2 nw f2) (strike left p q) cnt2 (.slice ao' (L.length + 1) cp') (L ++ [[p, q, cc]]) (w2.setCell ⟨b3, 0, none⟩ (.slice ao' (L.length + 1) cp'))) := Rnd.put hg3 hbr HN2.out HX.out.2 HX.out.1.1.1 HX.out.1.1.2 HX.out.1.2.1 HX.out.1.2.2 hlen ho hg2
    obtain ⟨⟨y0, _, _⟩, z0, _, _⟩ := hB3
    clear ho hg2 hvb hown HN2 t0 HX
    go_wp2
    go_roundw
    case rel => exact ⟨_, _, _, _, HRn⟩
    case measure => rw [HRn.out.pr.left_eq]; exact HLT.out
 refine wp_region_held_drew (S := ColBox w b oo (.map (some g)) (.slice b1 nl d1) (.slice b2 nw d2)) (by kernel_rfl) h0 (fun hS => ?_)
 clear h0
 refine tkH 0 ?_ hS (fun wx hx => ?_) ?_; rotate_left
 ·obtain ⟨⟨⟨hx0, hx1, hx2⟩, _⟩, _⟩ := hx; go_simp; try with_reducible rfl
 refine tkH 1 ?_ hS (fun wx hx => ?_) ?_; rotate_left
 ·obtain ⟨⟨⟨hx0, hx1, hx2⟩, _⟩, _⟩ := hx; go_simp; try with_reducible rfl
 refine tkH 2 ?_ hS (fun wx hx => ?_) ?_; rotate_left
 ·obtain ⟨⟨⟨hx0, hx1, hx2⟩, _⟩, _⟩ := hx; go_simp; try with_reducible rfl
 refine tkH 3 ?_ hS (fun wx hx => ?_) ?_; rotate_left
 ·obtain ⟨⟨⟨hx0, hx1, hx2⟩, _⟩, _⟩ := hx; go_simp; try with_reducible rfl
 refine tkH 5 ?_ hS (fun wx hx => ?_) ?_; rotate_left
 ·obtain ⟨⟨⟨hx0, hx1, hx2⟩, _⟩, _⟩ := hx; go_simp; try with_reducible rfl
 refine tkH 6 ?_ hS (fun wx hx => ?_) ?_; rotate_left
 ·obtain ⟨⟨⟨hx0, hx1, hx2⟩, _⟩, _⟩ := hx; go_simp; try with_reducible rfl
 refine tkH 7 ?_ hS (fun wx hx => ?_) ?_; rotate_left
 ·obtain ⟨⟨⟨hx0, hx1, hx2⟩, _⟩, _⟩ := hx; go_simp; try with_reducible rfl
 refine tkH 8 ?_ hS (fun wx hx => ?_) ?_; rotate_left
 ·obtain ⟨⟨⟨hx0, hx1, hx2⟩, _⟩, _⟩ := hx; go_simp; try with_reducible rfl
 refine wpAnyH_ready (rs := [4, 11]) (by kernel_rfl) (by simp) ?_
 refine AllReadyH.cons rfl (fun K hK => ?_) (AllReadyH.cons rfl (fun K hK => ?_) AllReadyH.nil)
 ·refine step_copy (by rfl) _ 25 (by rfl) 40 i1 (.agg #[.int .i64 0, .int .i64 0, .int .i64 0, .int .i64 0, .int .i64 0]) 5 40 Tryz.underlying25 hi1 hz01 hz11 hz21 rfl (by omega) (by omega) _ B nl l (.slice b1 nl d1) (by rfl) (H1.out.later (w' := (w.alloc (.cells #[.slice none 0 0, .slice none 0 0, .slice none 0 0] 28)).drew) (below_alloc _ _).drew) (by omega) ?_
  intro r1 wA ho1 hb1
  obtain ⟨e1, f1, rfl⟩ := ho1.form
  have hS' := hS.later hb1
  have HP1 : Hid (Pre w b oo N m g (.slice b1 nl d1) (.slice b2 nw d2) wA) := HP0.out.later hb1
  have HO1 : Hid (Own wA (w.heap.size + 1) 40 5 nl l (.slice e1 nl f1)) := by rw [size_drew] at ho1; exact ho1
  have zA : Hid (w.heap.size + 1 ≤ wA.heap.size) := by have := hb1.size; rw [size_drew] at this; exact this
  clear ho1 hb1
  go_simp
  refine hK.out _ _ hS' (fun hS => ?_)
  clear hK K hS'
  refine wpAnyH_ready (rs := [9, 11]) (by kernel_rfl) (by simp) ?_
  refine AllReadyH.cons rfl (fun K hK => ?_) (AllReadyH.cons rfl (fun K hK => ?_) AllReadyH.nil)
  ·refine step_copy (by rfl) _ 26 (by rfl) 55 i2 (.agg #[.int .i64 0, .int .i64 0, .int .i64 0, .int .i64 0]) 4 32 Tryz.underlying26 hi2 hz02 hz12 hz22 rfl (by omega) (by omega) _ B nw k (.slice b2 nw d2) (by rfl) (H2.out.later HP1.out.below) (by omega) ?_
   intro r2 wB ho2 hb2
   obtain ⟨e2, f2, rfl⟩ := ho2.form
   have hS' := hS.later hb2
   have HP2 : Hid (Pre w b oo N m g (.slice b1 nl d1) (.slice b2 nw d2) wB) := HP1.out.later hb2
   have HLf : Hid (Leaf w b oo N m nl l nw k g (.slice b1 nl d1) (.slice b2 nw d2) wB.heap.size (.slice none 0 0) (.slice e1 nl f1) (.slice e2 nw f2) (.slice e1 nl f1) (.slice e2 nw f2) (wB.alloc (.cells #[.slice none 0 0, .slice e1 nl f1, .slice e2 nw f2] 28))) :=
    (HP2.out.later (below_alloc wB (.cells #[.slice none 0 0, .slice e1 nl f1, .slice e2 nw f2] 28))).leaf (Blk3.new wB _ _ _ _) (by have := zA.out; have := hb2.size; omega) ((HO1.out.later hb2).alloc _) ((ho2.mono zA.out).alloc _) (fun j hj => by have := HO1.out.block j hj; have := hb2.size; omega) (fun j hj => by have := ho2.block j hj; omega) (fun i j hi hj => by have := HO1.out.block i hi; have := ho2.block j hj; omega)
   clear ho2 hb2 HP1 HO1 zA
   go_simp
   refine hK.out _ _ hS' (fun hS => ?_)
   clear hK K hS'
   refine tkH 10 ?_ hS (fun wx hx => ?_) ?_; rotate_left
   ·obtain ⟨⟨⟨hx0, hx1, hx2⟩, _⟩, _⟩ := hx; go_simp; try with_reducible rfl
   refine rdH 11 (fun K hK => ?_)
   go_simp
   refine hK.out _ _ (hS.later (below_alloc _ _)) (fun hS => ?_)
   clear hK K
   refine rdH 12 (fun K hK => ?_)
   go_simp
   refine hK.out _ _ ⟨HLf.out.cols, HLf.out.below⟩ (fun hS => ?_)
   clear hK K hS HP2
   refine wpAnyH_done (by kernel_rfl) ?_ _
   go_simp
   exact rest.out _ _ _ _ _ _ HLf.out
  ·have hS' := hS.later (below_alloc wA (.cells #[.slice none 0 0, .slice none 0 0, .slice none 0 0] 28))
   have HP2 : Hid (Pre w b oo N m g (.slice b1 nl d1) (.slice b2 nw d2) (wA.alloc (.cells #[.slice none 0 0, .slice none 0 0, .slice none 0 0] 28))) := HP1.out.later (below_alloc wA (.cells #[.slice none 0 0, .slice none 0 0, .slice none 0 0] 28))
   have HO2 : Hid (Own (wA.alloc (.cells #[.slice none 0 0, .slice none 0 0, .slice none 0 0] 28)) (w.heap.size + 1) 40 5 nl l (.slice e1 nl f1)) := HO1.out.alloc _
   go_simp
   refine hK.out _ _ hS' (fun hS => ?_)
   clear hK K hS'
   refine rdH 9 (fun K hK => ?_)
   refine step_copy (by rfl) _ 26 (by rfl) 55 i2 (.agg #[.int .i64 0, .int .i64 0, .int .i64 0, .int .i64 0]) 4 32 Tryz.underlying26 hi2 hz02 hz12 hz22 rfl (by omega) (by omega) _ B nw k (.slice b2 nw d2) (by rfl) (H2.out.later HP2.out.below) (by omega) ?_
   intro r2 wC ho2 hb2
   obtain ⟨e2, f2, rfl⟩ := ho2.form
   have hS' := hS.later hb2
   rw [World.size_alloc] at ho2
   have HLf : Hid (Leaf w b oo N m nl l nw k g (.slice b1 nl d1) (.slice b2 nw d2) wA.heap.size (.slice none 0 0) (.slice none 0 0) (.slice none 0 0) (.slice e1 nl f1) (.slice e2 nw f2) wC) :=
    (HP2.out.later hb2).leaf ((Blk3.new wA _ _ _ _).later hb2) (by have := zA.out; omega) (HO2.out.later hb2) (ho2.mono (by have := zA.out; omega)) (fun j hj => by have := HO1.out.block j hj; omega) (fun j hj => by have := ho2.block j hj; omega) (fun i j hi hj => by have := HO1.out.block i hi; have := ho2.block j hj; omega)
   clear ho2 hb2 HP1 HO1 zA HP2 HO2
   go_simp
   refine hK.out _ _ hS' (fun hS => ?_)
   clear hK K hS'
   refine tkH 10 ?_ hS (fun wx hx => ?_) ?_; rotate_left
   ·obtain ⟨⟨⟨hx0, hx1, hx2⟩, _⟩, _⟩ := hx; go_simp; try with_reducible rfl
   refine rdH 12 (fun K hK => ?_)
   obtain ⟨⟨y0, y1, y2⟩, z0, z1, z2⟩ := HLf.out.own
   have HLg : Hid (Leaf w b oo N m nl l nw k g (.slice b1 nl d1) (.slice b2 nw d2) wA.heap.size (.slice none 0 0) (.slice e1 nl f1) (.slice e2 nw f2) (.slice e1 nl f1) (.slice e2 nw f2) (((wC.setCell ⟨wA.heap.size, 0, none⟩ (.slice none 0 0)).setCell ⟨wA.heap.size, 1, none⟩ (.slice e1 nl f1)).setCell ⟨wA.heap.size, 2, none⟩ (.slice e2 nw f2))) := HLf.out.put _ _ _
   go_simp
   refine hK.out _ _ ⟨HLg.out.cols, HLg.out.below⟩ (fun hS => ?_)
   clear hK K hS
   refine wpAnyH_done (by kernel_rfl) ?_ _
   go_simp
   exact rest.out _ _ _ _ _ _ HLg.out
 ·have hS' : ColBox w b oo (.map (some g)) (.slice b1 nl d1) (.slice b2 nw d2) ((w.alloc (.cells #[.slice none 0 0, .slice none 0 0, .slice none 0 0] 28)).alloc (.cells #[.slice none 0 0, .slice none 0 0, .slice none 0 0] 28)).drew := ⟨HPB.out.cols, HPB.out.below⟩
  go_simp
  refine hK.out _ _ hS' (fun hS => ?_)
  clear hK K hS'
  refine rdH 4 (fun K hK => ?_)
  refine step_copy (by rfl) _ 25 (by rfl) 40 i1 (.agg #[.int .i64 0, .int .i64 0, .int .i64 0, .int .i64 0, .int .i64 0]) 5 40 Tryz.underlying25 hi1 hz01 hz11 hz21 rfl (by omega) (by omega) ((w.alloc (.cells #[.slice none 0 0, .slice none 0 0, .slice none 0 0] 28)).alloc (.cells #[.slice none 0 0, .slice none 0 0, .slice none 0 0] 28)).drew B nl l (.slice b1 nl d1) (by rfl) (H1.out.later HPB.out.below) (by omega) ?_
  intro r1 wB ho1 hb1
  obtain ⟨e1, f1, rfl⟩ := ho1.form
  have hS' := hS.later hb1
  have HP1 : Hid (Pre w b oo N m g (.slice b1 nl d1) (.slice b2 nw d2) wB) := HPB.out.later hb1
  have hX : (((w.alloc (.cells #[.slice none 0 0, .slice none 0 0, .slice none 0 0] 28)).alloc (.cells #[.slice none 0 0, .slice none 0 0, .slice none 0 0] 28)).drew).heap.size = w.heap.size + 2 := by simp
  rw [hX] at ho1
  have HO1 : Hid (Own wB (w.heap.size + 2) 40 5 nl l (.slice e1 nl f1)) := ho1
  have zB : Hid (w.heap.size + 2 ≤ wB.heap.size) := by have := hb1.size; rw [hX] at this; exact this
  have HB1 : Hid (Blk3 wB (w.heap.size + 1) (.slice none 0 0) (.slice none 0 0) (.slice none 0 0)) := HBB.out.later (x := ((w.alloc (.cells #[.slice none 0 0, .slice none 0 0, .slice none 0 0] 28)).alloc (.cells #[.slice none 0 0, .slice none 0 0, .slice none 0 0] 28)).drew) hb1
  clear ho1 hb1 hX
  go_simp
  refine hK.out _ _ hS' (fun hS => ?_)
  clear hK K hS'
  refine rdH 9 (fun K hK => ?_)
  refine step_copy (by rfl) _ 26 (by rfl) 55 i2 (.agg #[.int .i64 0, .int .i64 0, .int .i64 0, .int .i64 0]) 4 32 Tryz.underlying26 hi2 hz02 hz12 hz22 rfl (by omega) (by omega) _ B nw k (.slice b2 nw d2) (by rfl) (H2.out.later HP1.out.below) (by omega) ?_
  intro r2 wC ho2 hb2
  obtain ⟨e2, f2, rfl⟩ := ho2.form
  have hS' := hS.later hb2
  have HLf : Hid (Leaf w b oo N m nl l nw k g (.slice b1 nl d1) (.slice b2 nw d2) (w.heap.size + 1) (.slice none 0 0) (.slice none 0 0) (.slice none 0 0) (.slice e1 nl f1) (.slice e2 nw f2) wC) :=
   (HP1.out.later hb2).leaf (HB1.out.later hb2) (Nat.lt_succ_self _) ((HO1.out.later hb2).mono (by omega)) (ho2.mono (by have := zB.out; omega)) (fun j hj => by have := HO1.out.block j hj; omega) (fun j hj => by have := ho2.block j hj; have := zB.out; omega) (fun i j hi hj => by have := HO1.out.block i hi; have := ho2.block j hj; omega)
  clear ho2 hb2 HP1 HO1 zB HB1
  go_simp
  refine hK.out _ _ hS' (fun hS => ?_)
  clear hK K hS'
  refine tkH 10 ?_ hS (fun wx hx => ?_) ?_; rotate_left
  ·obtain ⟨⟨⟨hx0, hx1, hx2⟩, _⟩, _⟩ := hx; go_simp; try with_reducible rfl
  refine rdH 12 (fun K hK => ?_)
  obtain ⟨⟨y0, y1, y2⟩, z0, z1, z2⟩ := HLf.out.own
  have HLg : Hid (Leaf w b oo N m nl l nw k g (.slice b1 nl d1) (.slice b2 nw d2) (w.heap.size + 1) (.slice none 0 0) (.slice e1 nl f1) (.slice e2 nw f2) (.slice e1 nl f1) (.slice e2 nw f2) (((wC.setCell ⟨w.heap.size + 1, 0, none⟩ (.slice none 0 0)).setCell ⟨w.heap.size + 1, 1, none⟩ (.slice e1 nl f1)).setCell ⟨w.heap.size + 1, 2, none⟩ (.slice e2 nw f2))) := HLf.out.put _ _ _
  go_simp
  refine hK.out _ _ ⟨HLg.out.cols, HLg.out.below⟩ (fun hS => ?_)
  clear hK K hS
  refine wpAnyH_done (by kernel_rfl) ?_ _
  go_simp
  exact rest.out _ _ _ _ _ _ HLg.out
theorem store_is (B b N : Nat) (m : Int → Int → Option Int) (nl : Nat) (l : Nat → Int) (nw : Nat) (k : Nat → Int) (g : Nat) (u1 u2 : Value) (w : World) (h : Cols w B b N m nl l nw k g u1 u2) (hl : nl ≤ 200) (hw : nw ≤ 200) (hN : N ≤ 400) (nc : Nat) (c : Nat → Int) (hM : MapRow m nc c) :
  Calls Tryz.prog 77 #[.pointer (some ⟨b, 0, none⟩)] w (NewSto w ⟨nc, c, nl, l, nw, k⟩) := store_isO B b 0 N m nl l nw k g u1 u2 w h.o hl hw hN nc c hM
end Go.Proofs.YtiadbiiiikhfaaaGreatDoor

namespace Go.Proofs.YtiadbiiiikhfaaaGreatDoor
section
open Go.RowKit Go.Sort Go.Shelf Go.Lib
set_option maxRecDepth 100000 in
theorem settled_is (n0 n1 n2 n3 n4 x0 x1 x2 x3 : Int) (bc : Nat) (w : World) (h : Blk4 w bc (.int .i64 x0) (.int .i64 x1) (.int .i64 x2) (.int .i64 x3)) :
  Calls Tryz.prog 117 #[.agg #[.int .i64 n0, .int .i64 n1, .int .i64 n2, .int .i64 n3, .int .i64 n4], .pointer (some ⟨bc, 0, none⟩)] w fun e w' => e = .returned (.bool (n0 == x0 && n1 == x2)) ∧ w' = w.alloc (.cells #[.int .i64 n0, .int .i64 n1, .int .i64 n2, .int .i64 n3, .int .i64 n4] 40) := by
 have hb := h.alloc (.cells #[.int .i64 n0, .int .i64 n1, .int .i64 n2, .int .i64 n3, .int .i64 n4] 40)
 have q0 := hb.1.1
 have q2 := hb.1.2.2.1
 have l0 := h.lt
 by_cases ha : n0 = x0
 ·by_cases hc : n1 = x2
  ·have hd : (n0 == x0 && n1 == x2) = true := by simp [ha, hc]
   rw [hd]
   clear hd h hb
   subst ha
   subst hc
   go_enter Tryz.func117, Tryz.ntmps117
   go_wp2
   go_ret
   exact ⟨rfl, rfl⟩
  ·have hd : (n0 == x0 && n1 == x2) = false := by simp [hc]
   rw [hd]
   clear hd h hb
   subst ha
   have hbf : (n1 == x2) = false := by simp [hc]
   go_enter Tryz.func117, Tryz.ntmps117
   go_wp2
   go_ret
   exact ⟨by rw [← hbf]; rfl, rfl⟩
 ·have hd : (n0 == x0 && n1 == x2) = false := by simp [ha]
  rw [hd]
  clear hd h hb
  go_enter Tryz.func117, Tryz.ntmps117
  go_wp2
  go_ret
  exact ⟨rfl, rfl⟩
set_option maxRecDepth 100000 in
set_option maxHeartbeats 4000000 in
theorem indexSettled_is (bc : Nat) (E : World → Prop) (D : List Int → Bool) (hdel : ∀ (x : World) (n0 n1 n2 n3 n4 : Int), E x → Calls Tryz.prog 117 #[.agg #[.int .i64 n0, .int .i64 n1, .int .i64 n2, .int .i64 n3, .int .i64 n4], .pointer (some ⟨bc, 0, none⟩)] x fun e x' => e = .returned (.bool (D [n0, n1, n2, n3, n4])) ∧ Below x.heap.size x x') (hE0 : ∀ x x', E x → Below x.heap.size x x' → E x') (B n : Nat) (F : Nat → Int) (v : Value) (w : World) (h : Row w B 5 n F v) (hn : n ≤ 1048576) (hw : E w) :
  Calls Tryz.prog 129 #[v, .func (.func 117) #[] #[.pointer (some ⟨bc, 0, none⟩)]] w fun e w' => ∃ r : Int, e = .returned (.int .i64 r) ∧ FirstAt (fun i => D (struD F 5 i) = true) n r ∧ Below w.heap.size w w' := by
 obtain ⟨ao, cp, rfl⟩ := h.form
 have H : Hid (Row w B 5 n F (.slice ao n cp)) := h
 have HC : Hid (∀ (x : World) (n0 n1 n2 n3 n4 : Int), E x → Calls Tryz.prog 117 #[.agg #[.int .i64 n0, .int .i64 n1, .int .i64 n2, .int .i64 n3, .int .i64 n4], .pointer (some ⟨bc, 0, none⟩)] x fun e x' => e = .returned (.bool (D [n0, n1, n2, n3, n4])) ∧ Below x.heap.size x x') := hdel
 have HE : Hid (∀ x x', E x → Below x.heap.size x x' → E x') := hE0
 have HW : Hid (E w) := hw
 clear h hdel hE0 hw
 go_enter Tryz.func129, Tryz.ntmps129
 go_wp2
 go_loopw [8] (fun i wr => ∃ k : Nat, k ≤ n ∧ i = .int .i64 k ∧ Hid (∀ j, j < k → D (struD F 5 j) = false) ∧ Hid (Below w.heap.size w wr)) (fun i _ => n - (intOf i).toNat)
 case atStart => exact ⟨0, Nat.zero_le _, rfl, fun j hj => absurd hj (Nat.not_lt_zero j), Below.refl _ _⟩
 case round =>
  obtain ⟨k, hk, rfl, HS, HB⟩ := hrel
  by_cases hlt : k < n
  case neg =>
   obtain rfl : n = k := by omega
   go_wp2
   go_ret
   exact ⟨-1, rfl, Or.inl ⟨rfl, fun i hi e => Bool.false_ne_true ((HS.out i hi).symm.trans e)⟩, HB.out⟩
  obtain ⟨g, o, rfl, _, hg, x0, x1, x2, x3, x4⟩ := (H.out.later HB.out).at5 hlt
  obtain ⟨n0, N0⟩ : ∃ x, F (k * 5) = x := ⟨_, rfl⟩
  rw [N0] at x0
  obtain ⟨n1, N1⟩ : ∃ x, F (k * 5 + 1) = x := ⟨_, rfl⟩
  rw [N1] at x1
  obtain ⟨n2, N2⟩ : ∃ x, F (k * 5 + 2) = x := ⟨_, rfl⟩
  rw [N2] at x2
  obtain ⟨n3, N3⟩ : ∃ x, F (k * 5 + 3) = x := ⟨_, rfl⟩
  rw [N3] at x3
  obtain ⟨n4, N4⟩ : ∃ x, F (k * 5 + 4) = x := ⟨_, rfl⟩
  rw [N4] at x4
  have HD : Hid (struD F 5 k = [n0, n1, n2, n3, n4]) := by
   unfold Hid
   rw [← N0, ← N1, ← N2, ← N3, ← N4]
   rfl
  obtain ⟨r, hr⟩ : ∃ r, D [n0, n1, n2, n3, n4] = r := ⟨_, rfl⟩
  have HR : Hid (D [n0, n1, n2, n3, n4] = r) := hr
  clear N0 N1 N2 N3 N4 hr
  cases r with
  | true =>
   go_wp2_with fail
   refine (HC.out _ n0 n1 n2 n3 n4 (HE.out _ _ HW.out HB.out)).mono ?_
   rw [HR.out]
   rintro e w1 ⟨rfl, q1⟩
   have HB1 : Hid (Below w.heap.size w w1) := HB.out.trans (q1.mono HB.out.size)
   clear q1
   go_wp2
   go_ret
   exact ⟨k, rfl, Or.inr ⟨k, hlt, rfl, (congrArg D HD.out).trans HR.out, fun j hj e => Bool.false_ne_true ((HS.out j hj).symm.trans e)⟩, HB1.out⟩
  | false =>
   have HS1 : Hid (∀ j, j < k + 1 → D (struD F 5 j) = false) := fun j hj => by
    rcases Nat.lt_or_ge j k with e | e
    ·exact HS.out j e
    ·obtain rfl : j = k := by omega
     rw [HD.out]; exact HR.out
   go_wp2_with fail
   refine (HC.out _ n0 n1 n2 n3 n4 (HE.out _ _ HW.out HB.out)).mono ?_
   rw [HR.out]
   rintro e w1 ⟨rfl, q1⟩
   have HB1 : Hid (Below w.heap.size w w1) := HB.out.trans (q1.mono HB.out.size)
   clear q1 HS HD HR HB
   go_wp2
   go_roundw
   case rel => exact ⟨k + 1, by omega, by go_num, HS1, HB1⟩
   case measure => simp [intOf]; omega
theorem zeroSettled (w : World) : (zeroValue 40).run Tryz.prog w = .ok (.agg #[.int .i64 0, .int .i64 0, .int .i64 0, .int .i64 0, .int .i64 0]) w := by kernel_rfl
set_option maxRecDepth 100000 in
set_option maxHeartbeats 8000000 in
theorem deleteSettled_is (bc : Nat) (E : World → Prop) (D : List Int → Bool) (hdel : ∀ (x : World) (n0 n1 n2 n3 n4 : Int), E x → Calls Tryz.prog 117 #[.agg #[.int .i64 n0, .int .i64 n1, .int .i64 n2, .int .i64 n3, .int .i64 n4], .pointer (some ⟨bc, 0, none⟩)] x fun e x' => e = .returned (.bool (D [n0, n1, n2, n3, n4])) ∧ Below x.heap.size x x') (hE0 : ∀ x x', E x → Below x.heap.size x x' → E x') (B n : Nat) (F : Nat → Int) (v : Value) (w : World) (h : Own w B 40 5 n F v) (hn : n ≤ 200) (hw : E w) (hE1 : ∀ x x' q, v.ownBlock = some q → E x → x.grownBy x' (some q) → E x') :
  Calls Tryz.prog 116 #[v, .func (.func 117) #[] #[.pointer (some ⟨bc, 0, none⟩)]] w fun e w' => ∃ v', e = .returned v' ∧ (Own w' B 40 5 (selD F 5 D n).length (fun p => (selD F 5 D n).flatten.getD p 0) v' ∧ v'.ownBlock = v.ownBlock) ∧ w.grownBy w' v.ownBlock ∧ E w' := by
 have HX := indexSettled_is bc E D hdel hE0 B n F v w h.row.1 (by omega) hw
 have HC : Hid (∀ (x : World) (n0 n1 n2 n3 n4 : Int), E x → Calls Tryz.prog 117 #[.agg #[.int .i64 n0, .int .i64 n1, .int .i64 n2, .int .i64 n3, .int .i64 n4], .pointer (some ⟨bc, 0, none⟩)] x fun e x' => e = .returned (.bool (D [n0, n1, n2, n3, n4])) ∧ Below x.heap.size x x') := hdel
 have HE0 : Hid (∀ x x', E x → Below x.heap.size x x' → E x') := hE0
 have HW : Hid (E w) := hw
 have HO : Hid (Own w B 40 5 n F v) := h
 obtain ⟨r, hr⟩ := FirstAt.get (fun i => D (struD F 5 i) = true) n
 have one : ∀ r', FirstAt (fun i => D (struD F 5 i) = true) n r' → r' = r := fun r' h' => by
  rcases h' with ⟨rfl, a⟩ | ⟨i, h1, rfl, h2, h3⟩
  ·rcases hr with ⟨rfl, _⟩ | ⟨j, g1, rfl, g2, g3⟩
   ·rfl
   ·exact absurd g2 (a j g1)
  ·rcases hr with ⟨rfl, a⟩ | ⟨j, g1, rfl, g2, g3⟩
   ·exact absurd h2 (a i h1)
   ·rcases Nat.lt_trichotomy i j with q | q | q
    ·exact absurd h2 (g3 i q)
    ·rw [q]
    ·exact absurd g2 (h3 j q)
 have HXr : Hid (Calls Tryz.prog 129 #[v, .func (.func 117) #[] #[.pointer (some ⟨bc, 0, none⟩)]] w fun e w' => e = .returned (.int .i64 r) ∧ Below w.heap.size w w') := HX.mono fun e w' ⟨r', he, hf, hb⟩ => ⟨by rw [he, one r' hf], hb⟩
 clear HX one hdel hE0 hw
 rcases hr with ⟨rfl, hno⟩ | ⟨i0, hi0, rfl, hp0, hf0⟩
 ·have HS : Hid (Own w B 40 5 (selD F 5 D n).length (fun p => (selD F 5 D n).flatten.getD p 0) v) := by
   have hs := selD_same (F := F) (m := 5) (D := D) (k := n) (fun i hi => by cases e : D (struD F 5 i) with | false => rfl | true => exact absurd e (hno i hi))
   unfold Hid
   rw [hs.1]
   exact h.congr (fun p hp => (hs.2 p hp).symm)
  obtain ⟨ao, cp, rfl⟩ := h.form
  clear h hno hE1 HO
  go_enter Tryz.func116, Tryz.ntmps116
  go_wp2_with fail
  refine HXr.out.mono ?_
  rintro e w1 ⟨rfl, q1⟩
  have Q : Hid (((Own w1 B 40 5 (selD F 5 D n).length (fun p => (selD F 5 D n).flatten.getD p 0) (.slice ao n cp)) ∧ w.grownBy w1 (Value.slice ao n cp).ownBlock) ∧ E w1) := ⟨⟨HS.out.later q1, ⟨q1.os, q1.tape, q1.output, q1.size, fun i hi _ => q1.block i hi⟩⟩, HE0.out _ _ HW.out q1⟩
  clear q1
  go_wp2
  go_ret
  exact ⟨_, rfl, ⟨Q.out.1.1, rfl⟩, Q.out.1.2, Q.out.2⟩
 ·rcases h.parts with ⟨_, e⟩ | ⟨g, cap, rfl, hB, hnc, hcm, hbk, hcell⟩
  ·omega
  have HB : Hid (B ≤ g) := hB
  have HE1 : Hid (∀ x x', E x → x.grownBy x' (some g) → E x') := fun x x' => hE1 x x' g rfl
  have hsame := selD_same (F := F) (m := 5) (D := D) (k := i0) (fun i hi => by cases e : D (struD F 5 i) with | false => rfl | true => exact absurd e (hf0 i hi))
  have hgone := selD_gone (F := F) (m := 5) (D := D) (k := i0) hp0
  have HM0 : Hid (Mid w g 40 5 n cap F (selD F 5 D (i0 + 1)) (i0 + 1)) := by
   unfold Hid
   rw [hgone]
   refine ⟨hbk, fun p hp => ?_, fun p _ h2 => hcell p h2⟩
   rw [hsame.1] at hp
   have hlt : i0 * 5 ≤ n * 5 := Nat.mul_le_mul_right 5 (by omega)
   rw [hsame.2 p hp]
   exact hcell p (by omega)
  have hlen0 : (selD F 5 D (i0 + 1)).length = i0 := by rw [hgone]; exact hsame.1
  have hmax : cap ≤ 9223372036854775807 := by unfold maxLen at hcm; omega
  have hcmH : Hid (cap ≤ maxLen) := hcm
  clear h hp0 hf0 hE1 hB hbk hcell hsame hgone HO hcm
  go_enter Tryz.func116, Tryz.ntmps116
  go_wp2_with fail
  refine HXr.out.mono ?_
  rintro e w1 ⟨rfl, q1⟩
  have HM1 : Hid (Mid w1 g 40 5 n cap F (selD F 5 D (i0 + 1)) (i0 + 1)) := HM0.out.later q1
  have HG1 : Hid (w.grownBy w1 (some g)) := ⟨q1.os, q1.tape, q1.output, q1.size, fun i hi _ => q1.block i hi⟩
  have HW1 : Hid (E w1) := HE0.out _ _ HW.out q1
  have d0 : (((i0 : Nat) : Int) == -1) = false := beq_eq_false_iff_ne.2 (by omega)
  have ew : IntKind.i64.wrap ((i0 : Int) + 1) = (i0 : Int) + 1 := by
   simp [IntKind.wrap, IntKind.bits, IntKind.signed]
   omega
  clear q1 HM0 HW
  go_wp2
  go_loopw [5, 6] (fun i j wr => ∃ k : Nat, i0 + 1 ≤ k ∧ k ≤ n ∧ j = .int .i64 k ∧ i = .int .i64 ((selD F 5 D k).length : Nat) ∧ Hid ((Mid wr g 40 5 n cap F (selD F 5 D k) k ∧ (selD F 5 D k).length < k) ∧ w.grownBy wr (some g) ∧ E wr)) (fun _ j _ => n - (intOf j).toNat)
  case atStart => exact ⟨i0 + 1, Nat.le_refl _, by omega, rfl, by rw [hlen0], ⟨HM1.out, by omega⟩, HG1.out, HW1.out⟩
  case round =>
   clear HM1 HG1 HW1 hlen0 ew d0
   obtain ⟨k, hk0, hk, rfl, rfl, HS⟩ := hrel
   obtain ⟨L, hL⟩ : ∃ L, selD F 5 D k = L := ⟨_, rfl⟩
   have HLl : Hid (∀ t ∈ L, t.length = 5) := by unfold Hid; rw [← hL]; exact selD_len F 5 D k
   have HL : Hid (selD F 5 D k = L) := hL
   rw [hL] at HS
   rw [hL]
   have hLk : L.length < k := HS.out.1.2
   clear hL
   by_cases hlt : k < n
   case neg =>
    obtain rfl : n = k := by omega
    have hmul : L.length * 5 + (n - L.length) * 5 ≤ cap * 5 := by
     rw [← Nat.add_mul]
     exact Nat.mul_le_mul_right 5 (by omega)
    obtain ⟨w3, hcl, hM3, hg3⟩ := run_clear_row 25 40 (.agg #[.int .i64 0, .int .i64 0, .int .i64 0, .int .i64 0, .int .i64 0]) 5 Tryz.underlying25 zeroSettled rfl (by intro v hv; simp [Value.cells] at hv; subst hv; rfl) wr g (L.length * 5) (n - L.length) (cap - L.length) (cap * 5) HS.out.1.1.1 hmul (by omega) (by omega)
    have Q : Hid ((Own w3 B 40 5 (selD F 5 D n).length (fun p => (selD F 5 D n).flatten.getD p 0) (.slice (some ⟨g, 0, none⟩) L.length cap)) ∧ w.grownBy w3 (some g) ∧ E w3) := by
     refine ⟨?_, ⟨hg3.os.trans HS.out.2.1.os, hg3.tape.trans HS.out.2.1.tape, hg3.output.trans HS.out.2.1.output, Nat.le_trans HS.out.2.1.size hg3.size, fun i hi hne => (hg3.block i (Nat.lt_of_lt_of_le hi HS.out.2.1.size) hne).trans (HS.out.2.1.block i hi hne)⟩, HE1.out _ _ HS.out.2.2 hg3⟩
     rw [HL.out]
     exact own_of hM3.1 HB.out (by omega) hcmH.out (fun p hp => (hM3.2 p hp).trans (HS.out.1.1.2.1 p hp))
    have hln : ((L.length : Nat) : Int) ≤ (n : Int) := by omega
    have hlc : ((L.length : Nat) : Int) ≤ (cap : Int) := by omega
    clear hM3 hg3 HS
    go_wp2
    go_ret
    exact ⟨_, rfl, ⟨Q.out.1, rfl⟩, Q.out.2.1, Q.out.2.2⟩
   have x0 := HS.out.1.1.2.2 (k * 5) (by omega) (by omega)
   obtain ⟨n0, N0⟩ : ∃ x, F (k * 5) = x := ⟨_, rfl⟩
   rw [N0] at x0
   have x1 := HS.out.1.1.2.2 (k * 5 + 1) (by omega) (by omega)
   obtain ⟨n1, N1⟩ : ∃ x, F (k * 5 + 1) = x := ⟨_, rfl⟩
   rw [N1] at x1
   have x2 := HS.out.1.1.2.2 (k * 5 + 2) (by omega) (by omega)
   obtain ⟨n2, N2⟩ : ∃ x, F (k * 5 + 2) = x := ⟨_, rfl⟩
   rw [N2] at x2
   have x3 := HS.out.1.1.2.2 (k * 5 + 3) (by omega) (by omega)
   obtain ⟨n3, N3⟩ : ∃ x, F (k * 5 + 3) = x := ⟨_, rfl⟩
   rw [N3] at x3
   have x4 := HS.out.1.1.2.2 (k * 5 + 4) (by omega) (by omega)
   obtain ⟨n4, N4⟩ : ∃ x, F (k * 5 + 4) = x := ⟨_, rfl⟩
   rw [N4] at x4
   have HD : Hid (struD F 5 k = [n0, n1, n2, n3, n4]) := by
    unfold Hid
    rw [← N0, ← N1, ← N2, ← N3, ← N4]
    rfl
   have hgl : g < wr.heap.size := HS.out.1.1.1.lt
   have HA : Hid (E (wr.alloc (.cells #[.int .i64 n0, .int .i64 n1, .int .i64 n2, .int .i64 n3, .int .i64 n4] 40))) := HE0.out _ _ HS.out.2.2 (below_alloc _ _)
   obtain ⟨r, hr⟩ : ∃ r, D [n0, n1, n2, n3, n4] = r := ⟨_, rfl⟩
   have HR : Hid (D [n0, n1, n2, n3, n4] = r) := hr
   clear N0 N1 N2 N3 N4 hr
   cases r with
   | true =>
    have HN : Hid (selD F 5 D (k + 1) = L) := (selD_gone (by rw [HD.out]; exact HR.out)).trans HL.out
    go_wp2_with fail
    refine (HC.out _ n0 n1 n2 n3 n4 HA.out).mono ?_
    rw [HR.out]
    rintro e w2 ⟨rfl, q2⟩
    have hb2 := (below_alloc wr (.cells #[.int .i64 n0, .int .i64 n1, .int .i64 n2, .int .i64 n3, .int .i64 n4] 40)).trans (q2.mono (by simp))
    have HS2 : Hid ((Mid w2 g 40 5 n cap F (selD F 5 D (k + 1)) (k + 1) ∧ (selD F 5 D (k + 1)).length < k + 1) ∧ w.grownBy w2 (some g) ∧ E w2) := by
     unfold Hid
     rw [HN.out]
     exact ⟨⟨(HS.out.1.1.later hb2).skip, by omega⟩, ⟨hb2.os.trans HS.out.2.1.os, hb2.tape.trans HS.out.2.1.tape, hb2.output.trans HS.out.2.1.output, Nat.le_trans HS.out.2.1.size hb2.size, fun i hi hne => (hb2.block i (Nat.lt_of_lt_of_le hi HS.out.2.1.size)).trans (HS.out.2.1.block i hi hne)⟩, HE0.out _ _ HS.out.2.2 hb2⟩
    have HNl : Hid ((selD F 5 D (k + 1)).length = L.length) := by unfold Hid; rw [HN.out]
    clear q2 hb2 HS HD HR HL HLl HA HN
    go_wp2
    go_roundw
    case rel => exact ⟨k + 1, by omega, by omega, by go_num, by rw [HNl.out], HS2⟩
    case measure => simp [intOf]; omega
   | false =>
    have HN : Hid (selD F 5 D (k + 1) = L ++ [[n0, n1, n2, n3, n4]]) := by
     unfold Hid
     rw [selD_kept (by rw [HD.out]; exact HR.out), HL.out, HD.out]
    go_wp2_with fail
    refine (HC.out _ n0 n1 n2 n3 n4 HA.out).mono ?_
    rw [HR.out]
    rintro e w2 ⟨rfl, q2⟩
    have hb2 := (below_alloc wr (.cells #[.int .i64 n0, .int .i64 n1, .int .i64 n2, .int .i64 n3, .int .i64 n4] 40)).trans (q2.mono (by simp))
    have y0 : w2.cell? ⟨wr.heap.size, 0, none⟩ = some (.int .i64 n0) := (q2.cell (p := ⟨wr.heap.size, 0, none⟩) (by simp)).trans (World.cell?_alloc_mark wr _ _ _ 0)
    have y1 : w2.cell? ⟨wr.heap.size, 1, none⟩ = some (.int .i64 n1) := (q2.cell (p := ⟨wr.heap.size, 1, none⟩) (by simp)).trans (World.cell?_alloc_mark wr _ _ _ 1)
    have y2 : w2.cell? ⟨wr.heap.size, 2, none⟩ = some (.int .i64 n2) := (q2.cell (p := ⟨wr.heap.size, 2, none⟩) (by simp)).trans (World.cell?_alloc_mark wr _ _ _ 2)
    have y3 : w2.cell? ⟨wr.heap.size, 3, none⟩ = some (.int .i64 n3) := (q2.cell (p := ⟨wr.heap.size, 3, none⟩) (by simp)).trans (World.cell?_alloc_mark wr _ _ _ 3)
    have y4 : w2.cell? ⟨wr.heap.size, 4, none⟩ = some (.int .i64 n4) := (q2.cell (p := ⟨wr.heap.size, 4, none⟩) (by simp)).trans (World.cell?_alloc_mark wr _ _ _ 4)
    have HM2 : Hid (Mid w2 g 40 5 n cap F L k ∧ w.grownBy w2 (some g) ∧ E w2) := ⟨HS.out.1.1.later hb2, ⟨hb2.os.trans HS.out.2.1.os, hb2.tape.trans HS.out.2.1.tape, hb2.output.trans HS.out.2.1.output, Nat.le_trans HS.out.2.1.size hb2.size, fun i hi hne => (hb2.block i (Nat.lt_of_lt_of_le hi HS.out.2.1.size)).trans (HS.out.2.1.block i hi hne)⟩, HE0.out _ _ HS.out.2.2 hb2⟩
    have hmul : (L.length + 1) * 5 ≤ cap * 5 := Nat.mul_le_mul_right 5 (by omega)
    have hsm : (L.length + 1) * 5 = L.length * 5 + 5 := Nat.succ_mul _ _
    obtain ⟨⟨u0, c0⟩, z0⟩ := HM2.out.1.1.cell (p := L.length * 5) (by omega)
    obtain ⟨⟨u1, c1⟩, z1⟩ := HM2.out.1.1.cell (p := L.length * 5 + 1) (by omega)
    obtain ⟨⟨u2, c2⟩, z2⟩ := HM2.out.1.1.cell (p := L.length * 5 + 2) (by omega)
    obtain ⟨⟨u3, c3⟩, z3⟩ := HM2.out.1.1.cell (p := L.length * 5 + 3) (by omega)
    obtain ⟨⟨u4, c4⟩, z4⟩ := HM2.out.1.1.cell (p := L.length * 5 + 4) (by omega)
    have hch : w2.setCells g (L.length * 5) ([n0, n1, n2, n3, n4].map (Value.int .i64)) = (((((w2.setCell ⟨g, L.length * 5, none⟩ (.int .i64 n0)).setCell ⟨g, L.length * 5 + 1, none⟩ (.int .i64 n1)).setCell ⟨g, L.length * 5 + 2, none⟩ (.int .i64 n2)).setCell ⟨g, L.length * 5 + 3, none⟩ (.int .i64 n3)).setCell ⟨g, L.length * 5 + 4, none⟩ (.int .i64 n4)) := rfl
    have HS2 : Hid ((Mid (((((w2.setCell ⟨g, L.length * 5, none⟩ (.int .i64 n0)).setCell ⟨g, L.length * 5 + 1, none⟩ (.int .i64 n1)).setCell ⟨g, L.length * 5 + 2, none⟩ (.int .i64 n2)).setCell ⟨g, L.length * 5 + 3, none⟩ (.int .i64 n3)).setCell ⟨g, L.length * 5 + 4, none⟩ (.int .i64 n4)) g 40 5 n cap F (selD F 5 D (k + 1)) (k + 1) ∧ (selD F 5 D (k + 1)).length < k + 1) ∧ w.grownBy (((((w2.setCell ⟨g, L.length * 5, none⟩ (.int .i64 n0)).setCell ⟨g, L.length * 5 + 1, none⟩ (.int .i64 n1)).setCell ⟨g, L.length * 5 + 2, none⟩ (.int .i64 n2)).setCell ⟨g, L.length * 5 + 3, none⟩ (.int .i64 n3)).setCell ⟨g, L.length * 5 + 4, none⟩ (.int .i64 n4)) (some g) ∧ E (((((w2.setCell ⟨g, L.length * 5, none⟩ (.int .i64 n0)).setCell ⟨g, L.length * 5 + 1, none⟩ (.int .i64 n1)).setCell ⟨g, L.length * 5 + 2, none⟩ (.int .i64 n2)).setCell ⟨g, L.length * 5 + 3, none⟩ (.int .i64 n3)).setCell ⟨g, L.length * 5 + 4, none⟩ (.int .i64 n4))) := by
     have hgs := grown_sets g ([n0, n1, n2, n3, n4].map (Value.int .i64)) (L.length * 5) w2
     have hmp := HM2.out.1.put HLl.out [n0, n1, n2, n3, n4] rfl (by omega) hlt hnc
     unfold Hid
     rw [← hch, HN.out]
     exact ⟨⟨hmp, by rw [List.length_append, List.length_singleton]; omega⟩, ⟨hgs.os.trans HM2.out.2.1.os, hgs.tape.trans HM2.out.2.1.tape, hgs.output.trans HM2.out.2.1.output, Nat.le_trans HM2.out.2.1.size hgs.size, fun i hi hne => (hgs.block i (Nat.lt_of_lt_of_le hi HM2.out.2.1.size) hne).trans (HM2.out.2.1.block i hi hne)⟩, HE1.out _ _ HM2.out.2.2 hgs⟩
    have HNl : Hid ((selD F 5 D (k + 1)).length = L.length + 1) := by unfold Hid; rw [HN.out, List.length_append, List.length_singleton]
    have hli : ((L.length : Nat) : Int) < (n : Int) := by omega
    have ew : IntKind.i64.wrap (((L.length : Nat) : Int) + 1) = ((L.length : Nat) : Int) + 1 := by
     simp [IntKind.wrap, IntKind.bits, IntKind.signed]
     omega
    clear q2 hb2 HS HD HR HL HLl HA HN hch HM2 hmul hsm
    go_wp2
    go_roundw
    case rel => exact ⟨k + 1, by omega, by omega, by go_num, by rw [HNl.out]; rfl, HS2⟩
    case measure => simp [intOf]; omega
end

section
open Go.RowKit Go.Lib
theorem below_drew (w : World) : Below w.heap.size w w.drew := ⟨rfl, rfl, rfl, Nat.le_refl _, fun _ _ => rfl⟩
/-- What settle stands on: the columns and the write, in a block of its own. -/
def SetE (w : World) (B b N : Nat) (m : Int → Int → Option Int) (nl : Nat) (l : Nat → Int) (nw : Nat) (k : Nat → Int) (g : Nat) (u1 u2 : Value) (x0 x1 x2 x3 : Int) (x : World) : Prop :=
 (x.cell? ⟨b, 2, none⟩ = some u2 ∧ x.cell? ⟨w.heap.size, 0, none⟩ = some (.int .i64 x0) ∧ x.cell? ⟨w.heap.size, 1, none⟩ = some (.int .i64 x1) ∧ x.cell? ⟨w.heap.size, 2, none⟩ = some (.int .i64 x2) ∧ x.cell? ⟨w.heap.size, 3, none⟩ = some (.int .i64 x3)) ∧
  Cols x B b N m nl l nw k g u1 u2 ∧ Blk4 x w.heap.size (.int .i64 x0) (.int .i64 x1) (.int .i64 x2) (.int .i64 x3) ∧ Below w.heap.size w x
theorem SetE.new {w x : World} {B b N : Nat} {m : Int → Int → Option Int} {nl : Nat} {l : Nat → Int} {nw : Nat} {k : Nat → Int} {g : Nat} {u1 u2 : Value} {x0 x1 x2 x3 : Int} (h : Cols x B b N m nl l nw k g u1 u2) (h4 : Blk4 x w.heap.size (.int .i64 x0) (.int .i64 x1) (.int .i64 x2) (.int .i64 x3)) (hb : Below w.heap.size w x) : SetE w B b N m nl l nw k g u1 u2 x0 x1 x2 x3 x :=
 ⟨⟨h.2.2.1.1.2.2, h4.1.1, h4.1.2.1, h4.1.2.2.1, h4.1.2.2.2⟩, h, h4, hb⟩
theorem SetE.later {w x x' : World} {B b N : Nat} {m : Int → Int → Option Int} {nl : Nat} {l : Nat → Int} {nw : Nat} {k : Nat → Int} {g : Nat} {u1 u2 : Value} {x0 x1 x2 x3 : Int} (h : SetE w B b N m nl l nw k g u1 u2 x0 x1 x2 x3 x) (hb : Below x.heap.size x x') : SetE w B b N m nl l nw k g u1 u2 x0 x1 x2 x3 x' :=
 SetE.new (h.2.1.later hb) (h.2.2.1.later hb) (h.2.2.2.trans (hb.mono h.2.2.2.size))
set_option maxRecDepth 100000 in
set_option maxHeartbeats 4000000 in
theorem settle_taken (B b N : Nat) (m : Int → Int → Option Int) (nl : Nat) (l : Nat → Int) (nw : Nat) (k : Nat → Int) (g : Nat) (u1 u2 : Value) (x0 x1 x2 x3 : Int) (w : World) (h : Cols w B b N m nl l nw k g u1 u2) (hw : nw ≤ 200)
  (hmono : ∀ i j, i ≤ j → j < nw → aheadW k x0 x1 j → aheadW k x0 x1 i) (ht : ∀ q, placeAt (aheadW k x0 x1) nw q → q < nw ∧ k (q * 4) = x0 ∧ k (q * 4 + 1) = x1) :
  Calls Tryz.prog 91 #[.pointer (some ⟨b, 0, none⟩), .agg #[.int .i64 x0, .int .i64 x1, .int .i64 x2, .int .i64 x3]] w fun e w' => e = .returned (.iface 123 (.agg #[.int .i64 4])) ∧ Below w.heap.size w w' := by
 have HT : Hid (∀ q, placeAt (aheadW k x0 x1) nw q → q < nw ∧ k (q * 4) = x0 ∧ k (q * 4 + 1) = x1) := ht
 clear ht
 obtain ⟨b1, d1, rfl⟩ := h.2.2.2.2.1.form
 obtain ⟨b2, d2, rfl⟩ := h.2.2.2.2.2.form
 have hbl := h.2.2.1.lt
 have HE : Hid (SetE w B b N m nl l nw k g (.slice b1 nl d1) (.slice b2 nw d2) x0 x1 x2 x3 (w.alloc (.cells #[.int .i64 x0, .int .i64 x1, .int .i64 x2, .int .i64 x3] 55))) := SetE.new (h.later (below_alloc _ _)) (Blk4.new w _ _ _ _ _) (below_alloc _ _)
 have HM : Hid (∀ i j, i ≤ j → j < nw → aheadW k x0 x1 j → aheadW k x0 x1 i) := hmono
 clear h hmono
 go_enter Tryz.func91, Tryz.ntmps91
 go_upto_region 1 with fail
 refine wp_region_held_drew (S := SetE w B b N m nl l nw k g (.slice b1 nl d1) (.slice b2 nw d2) x0 x1 x2 x3) (by kernel_rfl) (HE.out.later (below_drew _)) (fun hS => ?_)
 refine tkH 0 ?_ hS (fun wx hx => ?_) ?_; rotate_left
 ·obtain ⟨⟨hx0, hx1, hx2, hx3, hx4⟩, _⟩ := hx; go_simp; try with_reducible rfl
 refine tkH 1 ?_ hS (fun wx hx => ?_) ?_; rotate_left
 ·obtain ⟨⟨hx0, hx1, hx2, hx3, hx4⟩, _⟩ := hx; go_simp; try with_reducible rfl
 refine tkH 2 ?_ hS (fun wx hx => ?_) ?_; rotate_left
 ·obtain ⟨⟨hx0, hx1, hx2, hx3, hx4⟩, _⟩ := hx; go_simp; try with_reducible rfl
 refine tkH 3 ?_ hS (fun wx hx => ?_) ?_; rotate_left
 ·obtain ⟨⟨hx0, hx1, hx2, hx3, hx4⟩, _⟩ := hx; go_simp; try with_reducible rfl
 refine tkH 4 ?_ hS (fun wx hx => ?_) ?_; rotate_left
 ·obtain ⟨⟨hx0, hx1, hx2, hx3, hx4⟩, _⟩ := hx; go_simp; try with_reducible rfl
 refine rdH 5 (fun K hK => ?_)
 go_simp
 go_wp2_with fail
 refine (searchW_any nw k b2 d2 B x0 x1 x2 x3 _ hS.2.1.2.2.2.2.2.row.1 (by omega) HM.out).mono ?_
 rintro e w1 ⟨at_, r, rfl, hat, hr, q1⟩
 have S1 := hS.later q1
 go_wp2_with fail
 refine hK.out _ _ S1 (fun hS => ?_)
 clear hK K q1 S1 HE
 obtain rfl : r = true := hr.2 (HT.out _ hat)
 clear hat hr HT HM
 refine tkH 6 ?_ hS (fun wx hx => ?_) ?_; rotate_left
 ·obtain ⟨⟨hx0, hx1, hx2, hx3, hx4⟩, _⟩ := hx; go_simp; try with_reducible rfl
 refine tkH 7 ?_ hS (fun wx hx => ?_) ?_; rotate_left
 ·obtain ⟨⟨hx0, hx1, hx2, hx3, hx4⟩, _⟩ := hx; go_simp; try with_reducible rfl
 refine tkH 8 ?_ hS (fun wx hx => ?_) ?_; rotate_left
 ·obtain ⟨⟨hx0, hx1, hx2, hx3, hx4⟩, _⟩ := hx; go_simp; try with_reducible rfl
 refine tkH 9 ?_ hS (fun wx hx => ?_) ?_; rotate_left
 ·obtain ⟨⟨hx0, hx1, hx2, hx3, hx4⟩, _⟩ := hx; go_simp; try with_reducible rfl
 refine tkH 10 ?_ hS (fun wx hx => ?_) ?_; rotate_left
 ·obtain ⟨⟨hx0, hx1, hx2, hx3, hx4⟩, _⟩ := hx; go_simp; try with_reducible rfl
 refine wpAnyH_done (by kernel_rfl) ?_ _
 go_simp
 go_wp2
 go_ret
 exact ⟨rfl, hS.2.2.2⟩
set_option maxRecDepth 100000 in
set_option maxHeartbeats 4000000 in
theorem settle_full (B b N : Nat) (m : Int → Int → Option Int) (nl : Nat) (l : Nat → Int) (nw : Nat) (k : Nat → Int) (g : Nat) (u1 u2 : Value) (x0 x1 x2 x3 : Int) (w : World) (h : Cols w B b N m nl l nw k g u1 u2) (hw : nw = 200)
  (hmono : ∀ i j, i ≤ j → j < nw → aheadW k x0 x1 j → aheadW k x0 x1 i) (ht : ∀ q, placeAt (aheadW k x0 x1) nw q → ¬ (q < nw ∧ k (q * 4) = x0 ∧ k (q * 4 + 1) = x1)) :
  Calls Tryz.prog 91 #[.pointer (some ⟨b, 0, none⟩), .agg #[.int .i64 x0, .int .i64 x1, .int .i64 x2, .int .i64 x3]] w fun e w' => e = .returned (.iface 123 (.agg #[.int .i64 5])) ∧ Below w.heap.size w w' := by
 have HT : Hid (∀ q, placeAt (aheadW k x0 x1) nw q → ¬ (q < nw ∧ k (q * 4) = x0 ∧ k (q * 4 + 1) = x1)) := ht
 have dn : decide ((200 : Int) ≤ (nw : Int)) = true := decide_eq_true (by omega)
 have hw' : nw ≤ 200 := by omega
 clear ht hw
 obtain ⟨b1, d1, rfl⟩ := h.2.2.2.2.1.form
 obtain ⟨b2, d2, rfl⟩ := h.2.2.2.2.2.form
 have hbl := h.2.2.1.lt
 have HE : Hid (SetE w B b N m nl l nw k g (.slice b1 nl d1) (.slice b2 nw d2) x0 x1 x2 x3 (w.alloc (.cells #[.int .i64 x0, .int .i64 x1, .int .i64 x2, .int .i64 x3] 55))) := SetE.new (h.later (below_alloc _ _)) (Blk4.new w _ _ _ _ _) (below_alloc _ _)
 have HM : Hid (∀ i j, i ≤ j → j < nw → aheadW k x0 x1 j → aheadW k x0 x1 i) := hmono
 clear h hmono
 go_enter Tryz.func91, Tryz.ntmps91
 go_upto_region 1 with fail
 refine wp_region_held_drew (S := SetE w B b N m nl l nw k g (.slice b1 nl d1) (.slice b2 nw d2) x0 x1 x2 x3) (by kernel_rfl) (HE.out.later (below_drew _)) (fun hS => ?_)
 refine tkH 0 ?_ hS (fun wx hx => ?_) ?_; rotate_left
 ·obtain ⟨⟨hx0, hx1, hx2, hx3, hx4⟩, _⟩ := hx; go_simp; try with_reducible rfl
 refine tkH 1 ?_ hS (fun wx hx => ?_) ?_; rotate_left
 ·obtain ⟨⟨hx0, hx1, hx2, hx3, hx4⟩, _⟩ := hx; go_simp; try with_reducible rfl
 refine tkH 2 ?_ hS (fun wx hx => ?_) ?_; rotate_left
 ·obtain ⟨⟨hx0, hx1, hx2, hx3, hx4⟩, _⟩ := hx; go_simp; try with_reducible rfl
 refine tkH 3 ?_ hS (fun wx hx => ?_) ?_; rotate_left
 ·obtain ⟨⟨hx0, hx1, hx2, hx3, hx4⟩, _⟩ := hx; go_simp; try with_reducible rfl
 refine tkH 4 ?_ hS (fun wx hx => ?_) ?_; rotate_left
 ·obtain ⟨⟨hx0, hx1, hx2, hx3, hx4⟩, _⟩ := hx; go_simp; try with_reducible rfl
 refine rdH 5 (fun K hK => ?_)
 go_simp
 go_wp2_with fail
 refine (searchW_any nw k b2 d2 B x0 x1 x2 x3 _ hS.2.1.2.2.2.2.2.row.1 (by omega) HM.out).mono ?_
 rintro e w1 ⟨at_, r, rfl, hat, hr, q1⟩
 have S1 := hS.later q1
 go_wp2_with fail
 refine hK.out _ _ S1 (fun hS => ?_)
 clear hK K q1 S1 HE
 obtain rfl : r = false := Bool.eq_false_iff.2 (fun q => HT.out _ hat (hr.1 q))
 clear hat hr HT HM
 refine tkH 6 ?_ hS (fun wx hx => ?_) ?_; rotate_left
 ·obtain ⟨⟨hx0, hx1, hx2, hx3, hx4⟩, _⟩ := hx; go_simp; try with_reducible rfl
 refine tkH 7 ?_ hS (fun wx hx => ?_) ?_; rotate_left
 ·obtain ⟨⟨hx0, hx1, hx2, hx3, hx4⟩, _⟩ := hx; go_simp; try with_reducible rfl
 refine tkH 8 ?_ hS (fun wx hx => ?_) ?_; rotate_left
 ·obtain ⟨⟨hx0, hx1, hx2, hx3, hx4⟩, _⟩ := hx; go_simp; try with_reducible rfl
 refine tkH 9 ?_ hS (fun wx hx => ?_) ?_; rotate_left
 ·obtain ⟨⟨hx0, hx1, hx2, hx3, hx4⟩, _⟩ := hx; go_simp; try with_reducible rfl
 refine tkH 10 ?_ hS (fun wx hx => ?_) ?_; rotate_left
 ·obtain ⟨⟨hx0, hx1, hx2, hx3, hx4⟩, _⟩ := hx; go_simp; try with_reducible rfl
 refine wpAnyH_done (by kernel_rfl) ?_ _
 go_simp
 have p2 := hS.1.1
 go_wp2
 go_ret
 exact ⟨rfl, hS.2.2.2⟩
end

section
open Go.RowKit Go.Lib
set_option maxRecDepth 100000 in
set_option maxHeartbeats 4000000 in
theorem settle_done (B b N : Nat) (m : Int → Int → Option Int) (nl : Nat) (l : Nat → Int) (nw : Nat) (k : Nat → Int) (g : Nat) (u1 u2 : Value) (x0 x1 x2 x3 : Int) (w : World) (h : Cols w B b N m nl l nw k g u1 u2) (hA : ApartC b g u1 u2) (hl : nl ≤ 200) (hw : nw < 200)
  (hmono : ∀ i j, i ≤ j → j < nw → aheadW k x0 x1 j → aheadW k x0 x1 i) (ht : ∀ q, placeAt (aheadW k x0 x1) nw q → ¬ (q < nw ∧ k (q * 4) = x0 ∧ k (q * 4 + 1) = x1)) :
  Calls Tryz.prog 91 #[.pointer (some ⟨b, 0, none⟩), .agg #[.int .i64 x0, .int .i64 x1, .int .i64 x2, .int .i64 x3]] w fun e w' => e = .returned .nilIface ∧ (∃ q u1' u2', placeAt (aheadW k x0 x1) nw q ∧ Cols w' B b N m (unlL l x0 x2 nl).length (fun p => (unlL l x0 x2 nl).flatten.getD p 0) (nw + 1) (insF k 4 nw q [x0, x1, x2, x3]) g u1' u2' ∧ ApartC b g u1' u2') ∧ Below B w w' := by
 have HT : Hid (∀ q, placeAt (aheadW k x0 x1) nw q → ¬ (q < nw ∧ k (q * 4) = x0 ∧ k (q * 4 + 1) = x1)) := ht
 have HA : Hid (ApartC b g u1 u2) := hA
 have dn : decide ((200 : Int) ≤ (nw : Int)) = false := decide_eq_false (by omega)
 have H0 : Hid (Cols w B b N m nl l nw k g u1 u2) := h
 obtain ⟨POST, hPO⟩ : ∃ POST : World → Prop, ∀ w', POST w' ↔ ((∃ q u1' u2', placeAt (aheadW k x0 x1) nw q ∧ Cols w' B b N m (unlL l x0 x2 nl).length (fun p => (unlL l x0 x2 nl).flatten.getD p 0) (nw + 1) (insF k 4 nw q [x0, x1, x2, x3]) g u1' u2' ∧ ApartC b g u1' u2') ∧ Below B w w') := ⟨_, fun _ => Iff.rfl⟩
 refine Calls.mono (R := fun e w' => e = .returned .nilIface ∧ POST w') ?_ (fun e w' h => ⟨h.1, (hPO w').1 h.2⟩)
 have HPO : Hid (∀ w', ((∃ q u1' u2', placeAt (aheadW k x0 x1) nw q ∧ Cols w' B b N m (unlL l x0 x2 nl).length (fun p => (unlL l x0 x2 nl).flatten.getD p 0) (nw + 1) (insF k 4 nw q [x0, x1, x2, x3]) g u1' u2' ∧ ApartC b g u1' u2') ∧ Below B w w') → POST w') := fun w' h => (hPO w').2 h
 clear ht hA hPO
 obtain ⟨b1, d1, rfl⟩ := h.2.2.2.2.1.form
 obtain ⟨b2, d2, rfl⟩ := h.2.2.2.2.2.form
 have hbl := h.2.2.1.lt
 have HE : Hid (SetE w B b N m nl l nw k g (.slice b1 nl d1) (.slice b2 nw d2) x0 x1 x2 x3 (w.alloc (.cells #[.int .i64 x0, .int .i64 x1, .int .i64 x2, .int .i64 x3] 55))) := SetE.new (h.later (below_alloc _ _)) (Blk4.new w _ _ _ _ _) (below_alloc _ _)
 have HM : Hid (∀ i j, i ≤ j → j < nw → aheadW k x0 x1 j → aheadW k x0 x1 i) := hmono
 clear h hmono
 go_enter Tryz.func91, Tryz.ntmps91
 go_upto_region 1 with fail
 refine wp_region_held_drew (S := SetE w B b N m nl l nw k g (.slice b1 nl d1) (.slice b2 nw d2) x0 x1 x2 x3) (by kernel_rfl) (HE.out.later (below_drew _)) (fun hS => ?_)
 refine tkH 0 ?_ hS (fun wx hx => ?_) ?_; rotate_left
 ·obtain ⟨⟨hx0, hx1, hx2, hx3, hx4⟩, _⟩ := hx; go_simp; try with_reducible rfl
 refine tkH 1 ?_ hS (fun wx hx => ?_) ?_; rotate_left
 ·obtain ⟨⟨hx0, hx1, hx2, hx3, hx4⟩, _⟩ := hx; go_simp; try with_reducible rfl
 refine tkH 2 ?_ hS (fun wx hx => ?_) ?_; rotate_left
 ·obtain ⟨⟨hx0, hx1, hx2, hx3, hx4⟩, _⟩ := hx; go_simp; try with_reducible rfl
 refine tkH 3 ?_ hS (fun wx hx => ?_) ?_; rotate_left
 ·obtain ⟨⟨hx0, hx1, hx2, hx3, hx4⟩, _⟩ := hx; go_simp; try with_reducible rfl
 refine tkH 4 ?_ hS (fun wx hx => ?_) ?_; rotate_left
 ·obtain ⟨⟨hx0, hx1, hx2, hx3, hx4⟩, _⟩ := hx; go_simp; try with_reducible rfl
 refine rdH 5 (fun K hK => ?_)
 go_simp
 go_wp2_with fail
 refine (searchW_any nw k b2 d2 B x0 x1 x2 x3 _ hS.2.1.2.2.2.2.2.row.1 (by omega) HM.out).mono ?_
 rintro e w1 ⟨at_, r, rfl, hat, hr, q1⟩
 have S1 := hS.later q1
 go_wp2_with fail
 refine hK.out _ _ S1 (fun hS => ?_)
 clear hK K q1 S1 HE
 obtain rfl : r = false := Bool.eq_false_iff.2 (fun q => HT.out _ hat (hr.1 q))
 have HP : Hid (placeAt (aheadW k x0 x1) nw at_) := hat
 clear hat hr HT HM
 refine tkH 6 ?_ hS (fun wx hx => ?_) ?_; rotate_left
 ·obtain ⟨⟨hx0, hx1, hx2, hx3, hx4⟩, _⟩ := hx; go_simp; try with_reducible rfl
 refine tkH 7 ?_ hS (fun wx hx => ?_) ?_; rotate_left
 ·obtain ⟨⟨hx0, hx1, hx2, hx3, hx4⟩, _⟩ := hx; go_simp; try with_reducible rfl
 refine tkH 8 ?_ hS (fun wx hx => ?_) ?_; rotate_left
 ·obtain ⟨⟨hx0, hx1, hx2, hx3, hx4⟩, _⟩ := hx; go_simp; try with_reducible rfl
 refine tkH 9 ?_ hS (fun wx hx => ?_) ?_; rotate_left
 ·obtain ⟨⟨hx0, hx1, hx2, hx3, hx4⟩, _⟩ := hx; go_simp; try with_reducible rfl
 refine tkH 10 ?_ hS (fun wx hx => ?_) ?_; rotate_left
 ·obtain ⟨⟨hx0, hx1, hx2, hx3, hx4⟩, _⟩ := hx; go_simp; try with_reducible rfl
 refine wpAnyH_done (by kernel_rfl) ?_ _
 go_simp
 obtain ⟨⟨p2, y0, y1, y2, y3⟩, HC0, HB0, HW0⟩ := hS
 have HC : Hid (Cols w1 B b N m nl l nw k g (.slice b1 nl d1) (.slice b2 nw d2)) := HC0
 have HB4 : Hid (Blk4 w1 w.heap.size (.int .i64 x0) (.int .i64 x1) (.int .i64 x2) (.int .i64 x3)) := HB0
 have HBW : Hid (Below w.heap.size w w1) := HW0
 clear HC0 HB0 HW0
 have hOI : Hid (∀ q, (Value.slice b2 nw d2).ownBlock = some q → B ≤ q ∧ q < w.heap.size) := own_in H0.out.2.2.2.2.2
 have hOL : Hid (∀ q, (Value.slice b1 nl d1).ownBlock = some q → B ≤ q ∧ q < w.heap.size) := own_in H0.out.2.2.2.2.1
 have hgl : g < w.heap.size := H0.out.2.2.2.1.lt
 have hBb : Hid (B ≤ b ∧ B ≤ g) := ⟨H0.out.1, H0.out.2.1⟩
 have hzl : Hid (w.heap.size < w1.heap.size) := HB4.out.lt
 have HY : Hid (Below w1.heap.size w1 (w1.alloc (.cells #[.int .i64 x0, .int .i64 x1, .int .i64 x2, .int .i64 x3] 55)).drew) := (below_alloc w1 _).trans ((below_drew _).mono (by simp))
 have HI : Hid (Calls Tryz.prog 115 #[.slice b2 nw d2, .int .i64 at_, .slice (some ⟨w1.heap.size, 0, none⟩) 1 1] (w1.alloc (.cells #[.int .i64 x0, .int .i64 x1, .int .i64 x2, .int .i64 x3] 55)).drew (InsW (w1.alloc (.cells #[.int .i64 x0, .int .i64 x1, .int .i64 x2, .int .i64 x3] 55)).drew B nw at_ k [x0, x1, x2, x3] (.slice b2 nw d2))) :=
  insW_any _ B nw at_ w1.heap.size 1 k [x0, x1, x2, x3] _ rfl (HC.out.2.2.2.2.2.later HY.out) (Nat.le_trans hBb.out.1 (Nat.le_trans (Nat.le_of_lt hbl) (Nat.le_trans HBW.out.size HY.out.size))) (by omega) HP.out.1 (fun e => by have := (hOI.out _ e).2; have := hzl.out; omega) (Blkk.made w1 _ _ _ rfl).drew (fun p hp => by
   rw [drew_cell, World.cell?_alloc_at (w := w1) _ _ _ p rfl]
   obtain rfl | rfl | rfl | rfl : p = 0 ∨ p = 1 ∨ p = 2 ∨ p = 3 := by omega
   all_goals rfl)
 have SY : Hid (((w1.alloc (.cells #[.int .i64 x0, .int .i64 x1, .int .i64 x2, .int .i64 x3] 55)).drew).cell? ⟨w.heap.size, 0, none⟩ = some (.int .i64 x0) ∧ ((w1.alloc (.cells #[.int .i64 x0, .int .i64 x1, .int .i64 x2, .int .i64 x3] 55)).drew).cell? ⟨w.heap.size, 1, none⟩ = some (.int .i64 x1) ∧ ((w1.alloc (.cells #[.int .i64 x0, .int .i64 x1, .int .i64 x2, .int .i64 x3] 55)).drew).cell? ⟨w.heap.size, 2, none⟩ = some (.int .i64 x2) ∧ ((w1.alloc (.cells #[.int .i64 x0, .int .i64 x1, .int .i64 x2, .int .i64 x3] 55)).drew).cell? ⟨w.heap.size, 3, none⟩ = some (.int .i64 x3)) := (HB4.out.later HY.out).1
 go_upto_region 6 with fail
 refine wp_region_held_drew (S := fun X => X.cell? ⟨w.heap.size, 0, none⟩ = some (.int .i64 x0) ∧ X.cell? ⟨w.heap.size, 1, none⟩ = some (.int .i64 x1) ∧ X.cell? ⟨w.heap.size, 2, none⟩ = some (.int .i64 x2) ∧ X.cell? ⟨w.heap.size, 3, none⟩ = some (.int .i64 x3)) (by kernel_rfl) ⟨y0, y1, y2, y3⟩ (fun hS => ?_)
 refine tkH 0 ?_ hS (fun wx hx => ?_) ?_; rotate_left
 ·obtain ⟨hx0, hx1, hx2, hx3⟩ := hx; go_simp; try with_reducible rfl
 refine tkH 1 ?_ hS (fun wx hx => ?_) ?_; rotate_left
 ·obtain ⟨hx0, hx1, hx2, hx3⟩ := hx; go_simp; try with_reducible rfl
 refine tkH 2 ?_ hS (fun wx hx => ?_) ?_; rotate_left
 ·obtain ⟨hx0, hx1, hx2, hx3⟩ := hx; go_simp; try with_reducible rfl
 refine tkH 3 ?_ hS (fun wx hx => ?_) ?_; rotate_left
 ·obtain ⟨hx0, hx1, hx2, hx3⟩ := hx; go_simp; try with_reducible rfl
 refine tkH 5 ?_ hS (fun wx hx => ?_) ?_; rotate_left
 ·obtain ⟨hx0, hx1, hx2, hx3⟩ := hx; go_simp; try with_reducible rfl
 refine tkH 6 ?_ hS (fun wx hx => ?_) ?_; rotate_left
 ·obtain ⟨hx0, hx1, hx2, hx3⟩ := hx; go_simp; try with_reducible rfl
 refine wpAnyH_ready (rs := [4, 7]) (by kernel_rfl) (by simp) ?_
 refine AllReadyH.cons rfl (fun K hK => ?_) (AllReadyH.cons rfl (fun K hK => ?_) AllReadyH.nil)
 focus
  go_simp
  refine hK.out _ _ hS (fun hS => ?_)
  clear hK K
  refine rdH 7 (fun K hK => ?_)
  go_simp
  refine hK.out _ _ SY.out (fun hS => ?_)
  clear hK K
 rotate_left
 focus
  go_simp
  refine hK.out _ _ SY.out (fun hS => ?_)
  clear hK K
  refine rdH 4 (fun K hK => ?_)
  have p2' := (HY.out.cell (p := ⟨b, 2, none⟩) (lt_cell p2)).trans p2
  go_simp
  refine hK.out _ _ hS (fun hS => ?_)
  clear hK K p2'
 rotate_left
 all_goals
  refine rdH 8 (fun K hK => ?_)
  go_simp
  go_wp2_with fail
  refine HI.out.mono ?_
  rintro e w4 ⟨e2, f2, rfl, O4, G4, A4⟩
  have hk4 : ∀ i, i < w1.heap.size → (∀ q, (Value.slice b2 nw d2).ownBlock = some q → i ≠ q) → w4.heap[i]? = w1.heap[i]? := fun i h1 h2 => (G4.block i (Nat.lt_of_lt_of_le h1 HY.out.size) (fun e => h2 i e.symm rfl)).trans (HY.out.block i h1)
  have HB4' : Hid (Blk4 w4 w.heap.size (.int .i64 x0) (.int .i64 x1) (.int .i64 x2) (.int .i64 x3)) := HB4.out.kept (hk4 _ HB4.out.lt (fun q hq e => by have := (hOI.out q hq).2; omega))
  have HB' : Hid (Blk3 w4 b (.map (some g)) (.slice b1 nl d1) (.slice b2 nw d2)) := HC.out.2.2.1.kept (hk4 _ HC.out.2.2.1.lt (fun q hq e => (HA.out.2.2.1 q hq).1 e.symm))
  have HP4 : Hid (PM w4 g N m) := HC.out.2.2.2.1.kept (hk4 _ HC.out.2.2.2.1.lt (fun q hq e => (HA.out.2.2.1 q hq).2 e.symm))
  have HL4 : Hid (Own w4 B 40 5 nl l (.slice b1 nl d1)) := HC.out.2.2.2.2.1.kept (fun j hj => hk4 j (own_in HC.out.2.2.2.2.1 j hj).2 (fun q hq e => HA.out.2.2.2 j hj (by rw [hq, e])))
  have HW4 : Hid (Own w4 B 55 4 (nw + 1) (insF k 4 nw at_ [x0, x1, x2, x3]) (.slice e2 (nw + 1) f2)) := O4
  have HA4 : Hid (∀ q, (Value.slice e2 (nw + 1) f2).ownBlock = some q → (Value.slice b2 nw d2).ownBlock = some q ∨ w.heap.size < q) := fun q hq => (A4 q hq).imp id (fun h => by have := HY.out.size; have := hzl.out; omega)
  have HBB : Hid (Below B w w4) := ⟨G4.os.trans (HY.out.os.trans HBW.out.os), G4.tape.trans (HY.out.tape.trans HBW.out.tape), G4.output.trans (HY.out.output.trans HBW.out.output), Nat.le_trans HBW.out.size (Nat.le_trans HY.out.size G4.size), fun i hi => (hk4 i (by have := hBb.out; have := hzl.out; omega) (fun q hq e => by have := (hOI.out q hq).1; omega)).trans (HBW.out.block i (by have := hBb.out; omega))⟩
  have S4 := HB4'.out.1
  clear O4 G4 A4 hk4 HC HB4 HBW HI HY SY hS p2 y0 y1 y2 y3
  go_wp2_with fail
  refine hK.out _ _ S4 (fun hS => ?_)
  clear hK K S4
  refine tkH 9 ?_ hS (fun wx hx => ?_) ?_; rotate_left
  ·obtain ⟨hx0, hx1, hx2, hx3⟩ := hx; go_simp; try with_reducible rfl
  refine tkH 10 ?_ hS (fun wx hx => ?_) ?_; rotate_left
  ·obtain ⟨hx0, hx1, hx2, hx3⟩ := hx; go_simp; try with_reducible rfl
  obtain ⟨⟨t0, t1, t2⟩, ft0, ft1, ft2⟩ := HB'.out
  refine rdH 11 (fun K hK => ?_)
  go_simp
  have hk5 : ∀ i, i ≠ b → (w4.setCell ⟨b, 2, none⟩ (.slice e2 (nw + 1) f2)).heap[i]? = w4.heap[i]? := fun i hi => Below.heap_setCell w4 ⟨b, 2, none⟩ _ i hi
  have H45 : Hid (Blk4 (w4.setCell ⟨b, 2, none⟩ (.slice e2 (nw + 1) f2)) w.heap.size (.int .i64 x0) (.int .i64 x1) (.int .i64 x2) (.int .i64 x3)) := HB4'.out.kept (hk5 _ (by omega))
  have HB5 : Hid (Blk3 (w4.setCell ⟨b, 2, none⟩ (.slice e2 (nw + 1) f2)) b (.map (some g)) (.slice b1 nl d1) (.slice e2 (nw + 1) f2)) := HB'.out.set2 _
  have HP5 : Hid (PM (w4.setCell ⟨b, 2, none⟩ (.slice e2 (nw + 1) f2)) g N m) := HP4.out.kept (hk5 _ HA.out.1)
  have HL5 : Hid (Own (w4.setCell ⟨b, 2, none⟩ (.slice e2 (nw + 1) f2)) B 40 5 nl l (.slice b1 nl d1)) := HL4.out.kept (fun j hj => hk5 j (HA.out.2.1 j hj).1)
  have hub : Hid (∀ q, (Value.slice e2 (nw + 1) f2).ownBlock = some q → q ≠ b ∧ q ≠ g) := fun q hq => (HA4.out q hq).elim (fun h => HA.out.2.2.1 q h) (fun h => ⟨by omega, by omega⟩)
  have HW5 : Hid (Own (w4.setCell ⟨b, 2, none⟩ (.slice e2 (nw + 1) f2)) B 55 4 (nw + 1) (insF k 4 nw at_ [x0, x1, x2, x3]) (.slice e2 (nw + 1) f2)) := HW4.out.kept (fun j hj => hk5 j (hub.out j hj).1)
  have HBB5 : Hid (Below B w (w4.setCell ⟨b, 2, none⟩ (.slice e2 (nw + 1) f2))) := HBB.out.setCell hBb.out.1 _
  refine hK.out _ _ H45.out.1 (fun hS => ?_)
  clear hK K hk5 t0 t1 t2 ft0 ft1 ft2 HB4' HB' HP4 HL4 HW4 HBB
  generalize w4.setCell ⟨b, 2, none⟩ (.slice e2 (nw + 1) f2) = w5 at H45 HB5 HP5 HL5 HW5 HBB5 hS ⊢
  refine wpAnyH_done (by kernel_rfl) ?_ _
  go_simp
  have p1 := HB5.out.1.2.1
  go_wp2_with fail
  refine (deleteSettled_is w.heap.size (fun x => Blk4 x w.heap.size (.int .i64 x0) (.int .i64 x1) (.int .i64 x2) (.int .i64 x3)) (goneL x0 x2) (fun x n0 n1 n2 n3 n4 hx => (settled_is n0 n1 n2 n3 n4 x0 x1 x2 x3 _ x hx).mono (fun e x' ⟨he, hx'⟩ => ⟨he, by rw [hx']; exact below_alloc _ _⟩)) (fun _ _ hx hb => hx.later hb) B nl l _ w5 HL5.out hl H45.out (fun x x' q hq hx hgx => hx.kept (hgx.block _ hx.lt (fun e => by have := (hOL.out q hq).2; cases e; omega)))).mono ?_
  rintro e w6 ⟨v1, rfl, ⟨ho1, hob1⟩, hg6, _⟩
  obtain ⟨e1, f1, rfl⟩ := ho1.form
  have hk6 : ∀ i, i < w5.heap.size → (∀ q, (Value.slice b1 nl d1).ownBlock = some q → i ≠ q) → w6.heap[i]? = w5.heap[i]? := fun i h1 h2 => hg6.block i h1 (fun e => h2 i e.symm rfl)
  have HB6 : Hid (Blk3 w6 b (.map (some g)) (.slice b1 nl d1) (.slice e2 (nw + 1) f2)) := HB5.out.kept (hk6 b HB5.out.lt (fun q hq e => (HA.out.2.1 q hq).1 e.symm))
  have HP6 : Hid (PM w6 g N m) := HP5.out.kept (hk6 g HP5.out.lt (fun q hq e => (HA.out.2.1 q hq).2 e.symm))
  have hun : Hid (∀ q, (Value.slice b1 nl d1).ownBlock = some q → (Value.slice e2 (nw + 1) f2).ownBlock ≠ some q) := fun q hq e => (HA4.out q e).elim (HA.out.2.2.2 q hq) (fun h => by have := (hOL.out q hq).2; omega)
  have HW6 : Hid (Own w6 B 55 4 (nw + 1) (insF k 4 nw at_ [x0, x1, x2, x3]) (.slice e2 (nw + 1) f2)) := HW5.out.kept (fun j hj => hk6 j (own_in HW5.out j hj).2 (fun q hq e => hun.out q hq (by rw [hj, e])))
  have HL6 : Hid (Own w6 B 40 5 (unlL l x0 x2 nl).length (fun p => (unlL l x0 x2 nl).flatten.getD p 0) (.slice e1 (unlL l x0 x2 nl).length f1)) := ho1
  have HOB : Hid ((Value.slice e1 (unlL l x0 x2 nl).length f1).ownBlock = (Value.slice b1 nl d1).ownBlock) := hob1
  have HBB6 : Hid (Below B w w6) := HBB5.out.trans ⟨hg6.os, hg6.tape, hg6.output, hg6.size, fun i hi => hk6 i (by have := hBb.out; have := HBB5.out.size; omega) (fun q hq e => by have := (hOL.out q hq).1; omega)⟩
  obtain ⟨⟨t0, t1, t2⟩, ft0, ft1, ft2⟩ := HB6.out
  have hfin : Hid ((∃ q u1' u2', placeAt (aheadW k x0 x1) nw q ∧ Cols (w6.setCell ⟨b, 1, none⟩ (.slice e1 (unlL l x0 x2 nl).length f1)) B b N m (unlL l x0 x2 nl).length (fun p => (unlL l x0 x2 nl).flatten.getD p 0) (nw + 1) (insF k 4 nw q [x0, x1, x2, x3]) g u1' u2' ∧ ApartC b g u1' u2') ∧ Below B w (w6.setCell ⟨b, 1, none⟩ (.slice e1 (unlL l x0 x2 nl).length f1))) := by
   have hk7 : ∀ i, i ≠ b → (w6.setCell ⟨b, 1, none⟩ (.slice e1 (unlL l x0 x2 nl).length f1)).heap[i]? = w6.heap[i]? := fun i hi => Below.heap_setCell w6 ⟨b, 1, none⟩ _ i hi
   have hlb : ∀ q, (Value.slice e1 (unlL l x0 x2 nl).length f1).ownBlock = some q → q ≠ b ∧ q ≠ g := fun q hq => HA.out.2.1 q (HOB.out ▸ hq)
   exact ⟨⟨at_, _, _, HP.out, ⟨hBb.out.1, hBb.out.2, HB6.out.set1 _, HP6.out.kept (hk7 _ HA.out.1), HL6.out.kept (fun j hj => hk7 j (hlb j hj).1), HW6.out.kept (fun j hj => hk7 j (hub.out j hj).1)⟩, ⟨HA.out.1, hlb, hub.out, fun q hq => hun.out q (HOB.out ▸ hq)⟩⟩, HBB6.out.setCell hBb.out.1 _⟩
  obtain ⟨LEN, hLEN⟩ : ∃ LEN, LEN = (unlL l x0 x2 nl).length := ⟨_, rfl⟩
  have hLE' : (selD l 5 (goneL x0 x2) nl).length = LEN := hLEN.symm
  rw [hLE']
  have hfin' : Hid (POST (w6.setCell ⟨b, 1, none⟩ (.slice e1 (unlL l x0 x2 nl).length f1))) := HPO.out _ hfin.out
  rw [← hLEN] at hfin'
  clear hfin HPO hLEN
  clear HB6 HP6 HW6 HL6 HOB HBB6 hk6 hg6 ho1 hob1 H45 HB5 HP5 HL5 HW5 HBB5 hun hub hS HA4 hLE'
  go_wp2
  go_ret
  exact ⟨rfl, hfin'.out⟩
end
end Go.Proofs.YtiadbiiiikhfaaaGreatDoor

namespace Go.Proofs.YtiadbiiiikhfaaaGreatDoor
section
open Go.RowKit
def firstW (k : Nat → Int) (n : Nat) (key start : Int) (i : Nat) : Prop := i < n ∧ writeIs k key start i ∧ ∀ j, j < i → ¬ writeIs k key start j
def lastP (k : Nat → Int) (key ts : Int) (i : Nat) : Prop := k (i * 4) = key ∧ k (i * 4 + 1) ≤ ts ∧ k (i * 4 + 3) ≤ 2
def lastW (k : Nat → Int) (n : Nat) (key ts : Int) (i : Nat) : Prop := i < n ∧ lastP k key ts i ∧ ∀ j, i < j → j < n → ¬ lastP k key ts j
theorem firstW.one {k : Nat → Int} {n : Nat} {a b : Int} {i j : Nat} (h : firstW k n a b i) (h' : firstW k n a b j) : i = j := by
 rcases Nat.lt_trichotomy i j with e | e | e
 ·exact absurd h.2.1 (h'.2.2 i e)
 ·exact e
 ·exact absurd h'.2.1 (h.2.2 j e)
theorem lastW.one {k : Nat → Int} {n : Nat} {a b : Int} {i j : Nat} (h : lastW k n a b i) (h' : lastW k n a b j) : i = j := by
 rcases Nat.lt_trichotomy i j with e | e | e
 ·exact absurd h'.2.1 (h.2.2 j e h'.1)
 ·exact e
 ·exact absurd h.2.1 (h'.2.2 i e h.1)
/-- What is told of one write: its numbers and true, or zeros and false. -/
def Told (q : Nat → Prop) (k : Nat → Int) (v : Value) : Prop :=
 (∃ i, q i ∧ v = .tuple #[.agg #[.int .i64 (k (i * 4)), .int .i64 (k (i * 4 + 1)), .int .i64 (k (i * 4 + 2)), .int .i64 (k (i * 4 + 3))], .bool true]) ∨ ((∀ i, ¬ q i) ∧ v = .tuple #[.agg #[.int .i64 0, .int .i64 0, .int .i64 0, .int .i64 0], .bool false])
set_option maxRecDepth 100000 in
set_option maxHeartbeats 4000000 in
theorem writeOf_anyO (B b oo N : Nat) (m : Int → Int → Option Int) (nl : Nat) (l : Nat → Int) (nw : Nat) (k : Nat → Int) (g : Nat) (u1 u2 : Value) (key start : Int) (w : World) (h : ColsO w B b oo N m nl l nw k g u1 u2) (hn : nw ≤ 200) :
  Calls Tryz.prog 64 #[.pointer (some ⟨b, oo, none⟩), .int .i64 key, .int .i64 start] w fun e w' => ∃ v, e = .returned v ∧ Told (firstW k nw key start) k v ∧ Below w.heap.size w w' := by
 obtain ⟨a1, c1, rfl⟩ := h.2.2.2.2.2.form
 have H : Hid (Row w B 4 nw k (.slice a1 nw c1)) := h.2.2.2.2.2.row.1
 have p1 := h.2.2.1.1.2.2
 have hb := h.2.2.1.lt
 clear h
 go_enter Tryz.func64, Tryz.ntmps64
 go_wp2
 clear p1
 go_loopw [15] (fun i wr => ∃ q : Nat, q ≤ nw ∧ i = .int .i64 q ∧ Hid (∀ j, j < q → ¬ writeIs k key start j) ∧ Hid (Below w.heap.size w wr ∧ Blk4 wr w.heap.size (.int .i64 0) (.int .i64 0) (.int .i64 0) (.int .i64 0))) (fun i _ => nw - (intOf i).toNat)
 case atStart => exact ⟨0, Nat.zero_le _, rfl, fun j hj => absurd hj (Nat.not_lt_zero j), below_alloc _ _, Blk4.new w _ _ _ _ _⟩
 case round =>
  obtain ⟨q, hq, rfl, HS, HB⟩ := hrel
  by_cases hlt : q < nw
  case neg =>
   obtain rfl : q = nw := by omega
   obtain ⟨⟨t0, t1, t2, t3⟩, f0, f1, f2, f3⟩ := HB.out.2
   go_wp2
   refine bodyPost_ret (v := .tuple #[.agg #[.int .i64 0, .int .i64 0, .int .i64 0, .int .i64 0], .bool false]) (by simp [results, Tryz.results64, go_sem, t0, t1, t2, t3]) rfl ⟨_, rfl, Or.inr ⟨fun i hi => HS.out i hi.1 hi.2.1, rfl⟩, ?_⟩
   exact (((HB.out.1.setCell (Nat.le_refl _) _).setCell (Nat.le_refl _) _).setCell (Nat.le_refl _) _).setCell (Nat.le_refl _) _
  obtain ⟨g', o, rfl, _, hg, x0, x1, x2, x3⟩ := (H.out.later HB.out.1).at4 hlt
  obtain ⟨n0, N0⟩ : ∃ x, k (q * 4) = x := ⟨_, rfl⟩
  rw [N0] at x0
  obtain ⟨n1, N1⟩ : ∃ x, k (q * 4 + 1) = x := ⟨_, rfl⟩
  rw [N1] at x1
  obtain ⟨n2, N2⟩ : ∃ x, k (q * 4 + 2) = x := ⟨_, rfl⟩
  rw [N2] at x2
  obtain ⟨n3, N3⟩ : ∃ x, k (q * 4 + 3) = x := ⟨_, rfl⟩
  rw [N3] at x3
  have hZ := HB.out.2.later (below_alloc wr (.cells #[.int .i64 n0, .int .i64 n1, .int .i64 n2, .int .i64 n3] 55))
  have hB2 := HB.out.1.alloc HB.out.1.size (.cells #[.int .i64 n0, .int .i64 n1, .int .i64 n2, .int .i64 n3] 55)
  have NN : Hid (k (q * 4) = n0 ∧ k (q * 4 + 1) = n1 ∧ k (q * 4 + 2) = n2 ∧ k (q * 4 + 3) = n3) := ⟨N0, N1, N2, N3⟩
  by_cases h0 : n0 = key
  case neg =>
   have E : Hid (∀ j, j < q + 1 → ¬ writeIs k key start j) := all_next HS.out (fun e => h0 (N0.symm.trans e.1))
   have HE : Hid (Below w.heap.size w (wr.alloc (.cells #[.int .i64 n0, .int .i64 n1, .int .i64 n2, .int .i64 n3] 55)) ∧ Blk4 (wr.alloc (.cells #[.int .i64 n0, .int .i64 n1, .int .i64 n2, .int .i64 n3] 55)) w.heap.size (.int .i64 0) (.int .i64 0) (.int .i64 0) (.int .i64 0)) := ⟨hB2, hZ⟩
   have d0 : (n0 == key) = false := beq_eq_false_iff_ne.2 h0
   clear N0 N1 N2 N3 NN HS h0 hZ hB2 HB
   go_wp2
   go_roundw
   case rel => exact ⟨q + 1, by omega, by go_num, E, HE⟩
   case measure => simp [intOf]; omega
  by_cases h2 : n2 = start
  case neg =>
   have E : Hid (∀ j, j < q + 1 → ¬ writeIs k key start j) := all_next HS.out (fun e => h2 (N2.symm.trans e.2))
   have HE : Hid (Below w.heap.size w (wr.alloc (.cells #[.int .i64 n0, .int .i64 n1, .int .i64 n2, .int .i64 n3] 55)) ∧ Blk4 (wr.alloc (.cells #[.int .i64 n0, .int .i64 n1, .int .i64 n2, .int .i64 n3] 55)) w.heap.size (.int .i64 0) (.int .i64 0) (.int .i64 0) (.int .i64 0)) := ⟨hB2, hZ⟩
   have d2 : (n2 == start) = false := beq_eq_false_iff_ne.2 h2
   clear N0 N1 N2 N3 NN HS h2 hZ hB2 HB
   subst h0
   go_wp2
   go_roundw
   case rel => exact ⟨q + 1, by omega, by go_num, E, HE⟩
   case measure => simp [intOf]; omega
  have E : Hid (writeIs k key start q) := ⟨N0.trans h0, N2.trans h2⟩
  have hne : ¬ wr.heap.size = w.heap.size := fun e => by have := HB.out.2.lt; omega
  obtain ⟨⟨t0, t1, t2, t3⟩, f0, f1, f2, f3⟩ := hZ
  clear N0 N1 N2 N3 HB
  subst h0 h2
  go_wp2
  refine bodyPost_ret (v := .tuple #[.agg #[.int .i64 n0, .int .i64 n1, .int .i64 n2, .int .i64 n3], .bool true]) (by simp [results, Tryz.results64, go_sem, t0, t1, t2, t3]) rfl ⟨_, rfl, Or.inl ⟨q, ⟨hlt, E.out, HS.out⟩, by rw [NN.out.1, NN.out.2.1, NN.out.2.2.1, NN.out.2.2.2]⟩, ?_⟩
  exact (((hB2.setCell (Nat.le_refl _) _).setCell (Nat.le_refl _) _).setCell (Nat.le_refl _) _).setCell (Nat.le_refl _) _
theorem writeOf_any (B b N : Nat) (m : Int → Int → Option Int) (nl : Nat) (l : Nat → Int) (nw : Nat) (k : Nat → Int) (g : Nat) (u1 u2 : Value) (key start : Int) (w : World) (h : Cols w B b N m nl l nw k g u1 u2) (hn : nw ≤ 200) :
  Calls Tryz.prog 64 #[.pointer (some ⟨b, 0, none⟩), .int .i64 key, .int .i64 start] w fun e w' => ∃ v, e = .returned v ∧ Told (firstW k nw key start) k v ∧ Below w.heap.size w w' := writeOf_anyO B b 0 N m nl l nw k g u1 u2 key start w h hn
theorem kind_is {x : Int} (h : 1 ≤ x) : x ≤ 2 ↔ x = 1 ∨ x = 2 := by omega
/-- What lastWrite has found behind q writes: its result's block, and whether there is one. -/
def LastEnv (w : World) (k : Nat → Int) (key ts : Int) (q : Nat) (ok : Bool) (x : World) : Prop :=
 Below w.heap.size w x ∧ ((ok = false ∧ (∀ i, ¬ lastW k q key ts i) ∧ Blk4 x w.heap.size (.int .i64 0) (.int .i64 0) (.int .i64 0) (.int .i64 0)) ∨ (ok = true ∧ ∃ i, lastW k q key ts i ∧ Blk4 x w.heap.size (.int .i64 (k (i * 4))) (.int .i64 (k (i * 4 + 1))) (.int .i64 (k (i * 4 + 2))) (.int .i64 (k (i * 4 + 3)))))
theorem LastEnv.later {w x x' : World} {k : Nat → Int} {key ts : Int} {q : Nat} {ok : Bool} (h : LastEnv w k key ts q ok x) (hb : Below x.heap.size x x') : LastEnv w k key ts q ok x' := by
 refine ⟨h.1.trans (hb.mono h.1.size), ?_⟩
 rcases h.2 with ⟨e, h1, h2⟩ | ⟨e, i, h1, h2⟩
 ·exact Or.inl ⟨e, h1, h2.later hb⟩
 ·exact Or.inr ⟨e, i, h1, h2.later hb⟩
theorem lastW_skip {k : Nat → Int} {key ts : Int} {q : Nat} (h : ¬ lastP k key ts q) (i : Nat) : lastW k (q + 1) key ts i ↔ lastW k q key ts i := by
 constructor
 ·rintro ⟨h1, h2, h3⟩
  have hi : i < q := by
   rcases Nat.lt_or_ge i q with e | e
   ·exact e
   ·obtain rfl : i = q := by omega
    exact absurd h2 h
  exact ⟨hi, h2, fun j hj hjq => h3 j hj (by omega)⟩
 ·rintro ⟨h1, h2, h3⟩
  refine ⟨by omega, h2, fun j hj hjq => ?_⟩
  rcases Nat.lt_or_ge j q with e | e
  ·exact h3 j hj e
  ·obtain rfl : j = q := by omega
   exact h
theorem LastEnv.skip {w x : World} {k : Nat → Int} {key ts : Int} {q : Nat} {ok : Bool} (h : LastEnv w k key ts q ok x) (hp : ¬ lastP k key ts q) : LastEnv w k key ts (q + 1) ok x := by
 refine ⟨h.1, ?_⟩
 rcases h.2 with ⟨e, h1, h2⟩ | ⟨e, i, h1, h2⟩
 ·exact Or.inl ⟨e, fun i hi => h1 i ((lastW_skip hp i).1 hi), h2⟩
 ·exact Or.inr ⟨e, i, (lastW_skip hp i).2 h1, h2⟩
theorem LastEnv.cells {w x : World} {k : Nat → Int} {key ts : Int} {q : Nat} {ok : Bool} (h : LastEnv w k key ts q ok x) : ∃ t0 t1 t2 t3 : Int, Blk4 x w.heap.size (.int .i64 t0) (.int .i64 t1) (.int .i64 t2) (.int .i64 t3) := by
 rcases h.2 with ⟨_, _, h2⟩ | ⟨_, i, _, h2⟩
 ·exact ⟨_, _, _, _, h2⟩
 ·exact ⟨_, _, _, _, h2⟩
set_option maxRecDepth 100000 in
set_option maxHeartbeats 4000000 in
theorem lastWrite_anyO (B b oo N : Nat) (m : Int → Int → Option Int) (nl : Nat) (l : Nat → Int) (nw : Nat) (k : Nat → Int) (g : Nat) (u1 u2 : Value) (key ts : Int) (w : World) (h : ColsO w B b oo N m nl l nw k g u1 u2) (hn : nw ≤ 200) (hk : ∀ i, i < nw → 1 ≤ k (i * 4 + 3)) :
  Calls Tryz.prog 66 #[.pointer (some ⟨b, oo, none⟩), .int .i64 key, .int .i64 ts] w fun e w' => ∃ v, e = .returned v ∧ Told (lastW k nw key ts) k v ∧ Below w.heap.size w w' := by
 obtain ⟨a1, c1, rfl⟩ := h.2.2.2.2.2.form
 have H : Hid (Row w B 4 nw k (.slice a1 nw c1)) := h.2.2.2.2.2.row.1
 have HK : Hid (∀ i, i < nw → 1 ≤ k (i * 4 + 3)) := hk
 have p1 := h.2.2.1.1.2.2
 have hb := h.2.2.1.lt
 clear h hk
 go_enter Tryz.func66, Tryz.ntmps66
 go_wp2
 clear p1
 go_loopw [7, 16] (fun o i wr => ∃ (q : Nat) (ok : Bool), q ≤ nw ∧ i = .int .i64 q ∧ o = .bool ok ∧ Hid (LastEnv w k key ts q ok wr)) (fun _ i _ => nw - (intOf i).toNat)
 case atStart => exact ⟨0, false, Nat.zero_le _, rfl, rfl, below_alloc _ _, Or.inl ⟨rfl, fun i hi => absurd hi.1 (Nat.not_lt_zero i), Blk4.new w _ _ _ _ _⟩⟩
 case round =>
  obtain ⟨q, ok, hq, rfl, rfl, HB⟩ := hrel
  obtain ⟨t0, t1, t2, t3, hT⟩ := HB.out.cells
  by_cases hlt : q < nw
  case neg =>
   obtain rfl : q = nw := by omega
   obtain ⟨⟨s0, s1, s2, s3⟩, f0, f1, f2, f3⟩ := hT
   have HT : Hid (Told (lastW k q key ts) k (.tuple #[.agg #[.int .i64 t0, .int .i64 t1, .int .i64 t2, .int .i64 t3], .bool ok])) := by
    rcases HB.out.2 with ⟨rfl, h1, h2⟩ | ⟨rfl, i, h1, h2⟩
    ·obtain ⟨⟨y0, y1, y2, y3⟩, _⟩ := h2
     rw [s0] at y0; rw [s1] at y1; rw [s2] at y2; rw [s3] at y3
     simp only [Option.some.injEq, Value.int.injEq, true_and] at y0 y1 y2 y3
     subst y0 y1 y2 y3
     exact Or.inr ⟨h1, rfl⟩
    ·obtain ⟨⟨y0, y1, y2, y3⟩, _⟩ := h2
     rw [s0] at y0; rw [s1] at y1; rw [s2] at y2; rw [s3] at y3
     simp only [Option.some.injEq, Value.int.injEq, true_and] at y0 y1 y2 y3
     refine Or.inl ⟨i, h1, ?_⟩
     rw [← y0, ← y1, ← y2, ← y3]
   go_wp2
   refine bodyPost_ret (v := .tuple #[.agg #[.int .i64 t0, .int .i64 t1, .int .i64 t2, .int .i64 t3], .bool ok]) (by simp [results, Tryz.results66, go_sem, s0, s1, s2, s3]) rfl ⟨_, rfl, HT.out, ?_⟩
   exact (((HB.out.1.setCell (Nat.le_refl _) _).setCell (Nat.le_refl _) _).setCell (Nat.le_refl _) _).setCell (Nat.le_refl _) _
  obtain ⟨g', o, rfl, _, hg, x0, x1, x2, x3⟩ := (H.out.later HB.out.1).at4 hlt
  have hkq := HK.out q hlt
  obtain ⟨n0, N0⟩ : ∃ x, k (q * 4) = x := ⟨_, rfl⟩
  rw [N0] at x0
  obtain ⟨n1, N1⟩ : ∃ x, k (q * 4 + 1) = x := ⟨_, rfl⟩
  rw [N1] at x1
  obtain ⟨n2, N2⟩ : ∃ x, k (q * 4 + 2) = x := ⟨_, rfl⟩
  rw [N2] at x2
  obtain ⟨n3, N3⟩ : ∃ x, k (q * 4 + 3) = x := ⟨_, rfl⟩
  rw [N3] at x3
  rw [N3] at hkq
  have hE2 := HB.out.later (below_alloc wr (.cells #[.int .i64 n0, .int .i64 n1, .int .i64 n2, .int .i64 n3] 55))
  have hT2 := hT.alloc (.cells #[.int .i64 n0, .int .i64 n1, .int .i64 n2, .int .i64 n3] 55)
  have hne : ¬ wr.heap.size = w.heap.size := fun e => by have := hT.lt; omega
  have LP : Hid (lastP k key ts q ↔ n0 = key ∧ n1 ≤ ts ∧ n3 ≤ 2) := by unfold Hid lastP; rw [N0, N1, N3]
  have NN : Hid (k (q * 4) = n0 ∧ k (q * 4 + 1) = n1 ∧ k (q * 4 + 2) = n2 ∧ k (q * 4 + 3) = n3) := ⟨N0, N1, N2, N3⟩
  clear N0 N1 N2 N3 hT
  by_cases hp : lastP k key ts q
  ·obtain ⟨rfl, h1, h3⟩ := LP.out.1 hp
   have d1 : decide (n1 ≤ ts) = true := decide_eq_true h1
   have PB := (hT2.put (.int .i64 n0) (.int .i64 n1) (.int .i64 n2) (.int .i64 n3))
   have HE : Hid (LastEnv w k n0 ts (q + 1) true (((((wr.alloc (.cells #[.int .i64 n0, .int .i64 n1, .int .i64 n2, .int .i64 n3] 55)).setCell ⟨w.heap.size, 0, none⟩ (.int .i64 n0)).setCell ⟨w.heap.size, 1, none⟩ (.int .i64 n1)).setCell ⟨w.heap.size, 2, none⟩ (.int .i64 n2)).setCell ⟨w.heap.size, 3, none⟩ (.int .i64 n3))) := by
    refine ⟨(((hE2.1.setCell (Nat.le_refl _) _).setCell (Nat.le_refl _) _).setCell (Nat.le_refl _) _).setCell (Nat.le_refl _) _, Or.inr ⟨rfl, q, ⟨by omega, hp, fun j h1 h2 => by omega⟩, ?_⟩⟩
    rw [NN.out.1, NN.out.2.1, NN.out.2.2.1, NN.out.2.2.2]
    exact PB
   obtain ⟨⟨s0, s1, s2, s3⟩, f0, f1, f2, f3⟩ := hT2
   rcases (kind_is hkq).1 h3 with rfl | rfl
   ·clear LP NN hp HB hE2 PB h1 h3 hkq
    go_wp2
    go_roundw
    case rel => exact ⟨q + 1, true, by omega, by go_num, rfl, HE⟩
    case measure => simp [intOf]; omega
   ·clear LP NN hp HB hE2 PB h1 h3 hkq
    go_wp2
    go_roundw
    case rel => exact ⟨q + 1, true, by omega, by go_num, rfl, HE⟩
    case measure => simp [intOf]; omega
  ·have HE : Hid (LastEnv w k key ts (q + 1) ok (wr.alloc (.cells #[.int .i64 n0, .int .i64 n1, .int .i64 n2, .int .i64 n3] 55))) := hE2.skip hp
   have hno : ¬ (n0 = key ∧ n1 ≤ ts ∧ n3 ≤ 2) := fun e => hp (LP.out.2 e)
   clear LP NN hp HB hE2 hT2
   by_cases h0 : n0 = key
   case neg =>
    have d0 : (n0 == key) = false := beq_eq_false_iff_ne.2 h0
    by_cases e1 : n3 = 1
    ·subst e1
     clear hno h0 hkq
     go_wp2
     go_roundw
     case rel => exact ⟨q + 1, ok, by omega, by go_num, rfl, HE⟩
     case measure => simp [intOf]; omega
    ·have d3 : (n3 == 1) = false := beq_eq_false_iff_ne.2 e1
     clear hno h0 hkq e1
     go_wp2
     go_roundw
     case rel => exact ⟨q + 1, ok, by omega, by go_num, rfl, HE⟩
     case measure => simp [intOf]; omega
   subst h0
   by_cases e1 : n3 = 1
   ·subst e1
    have d1 : decide (n1 ≤ ts) = false := decide_eq_false (fun q => hno ⟨rfl, q, by decide⟩)
    clear hno hkq
    go_wp2
    go_roundw
    case rel => exact ⟨q + 1, ok, by omega, by go_num, rfl, HE⟩
    case measure => simp [intOf]; omega
   have d3 : (n3 == 1) = false := beq_eq_false_iff_ne.2 e1
   by_cases e2 : n3 = 2
   ·subst e2
    have d1 : decide (n1 ≤ ts) = false := decide_eq_false (fun q => hno ⟨rfl, q, by decide⟩)
    clear hno hkq e1
    go_wp2
    go_roundw
    case rel => exact ⟨q + 1, ok, by omega, by go_num, rfl, HE⟩
    case measure => simp [intOf]; omega
   ·have d4 : (n3 == 2) = false := beq_eq_false_iff_ne.2 e2
    clear hno hkq e1 e2
    go_wp2
    go_roundw
    case rel => exact ⟨q + 1, ok, by omega, by go_num, rfl, HE⟩
    case measure => simp [intOf]; omega
theorem lastWrite_any (B b N : Nat) (m : Int → Int → Option Int) (nl : Nat) (l : Nat → Int) (nw : Nat) (k : Nat → Int) (g : Nat) (u1 u2 : Value) (key ts : Int) (w : World) (h : Cols w B b N m nl l nw k g u1 u2) (hn : nw ≤ 200) (hk : ∀ i, i < nw → 1 ≤ k (i * 4 + 3)) :
  Calls Tryz.prog 66 #[.pointer (some ⟨b, 0, none⟩), .int .i64 key, .int .i64 ts] w fun e w' => ∃ v, e = .returned v ∧ Told (lastW k nw key ts) k v ∧ Below w.heap.size w w' := lastWrite_anyO B b 0 N m nl l nw k g u1 u2 key ts w h hn hk
end

section
open Go.RowKit
set_option maxRecDepth 100000 in
set_option maxHeartbeats 4000000 in
theorem l2Last_anyO (S : Sto) (b oo : Nat) (v0 v1 v2 : Value) (key ts : Int) (w : World) (h : LiesO w b oo S v0 v1 v2) (hn : S.nw ≤ 200) :
  Calls Tryz.prog 99 #[.pointer (some ⟨b, oo, none⟩), .int .i64 key, .int .i64 ts] w fun e w' => ∃ r : Int, e = .returned (.int .i64 r) ∧ ((r = -1 ∧ ∀ i, ¬ lastW S.k S.nw key ts i) ∨ ∃ i : Nat, lastW S.k S.nw key ts i ∧ r = i) ∧ Below w.heap.size w w' := by
 obtain ⟨a0, c0, a1, c1, a2, c2, rfl, rfl, rfl⟩ := h.2.form
 have H : Hid (LiesO w b oo S (.slice a0 S.nc c0) (.slice a1 S.nl c1) (.slice a2 S.nw c2)) := h
 clear h
 go_enter Tryz.func99, Tryz.ntmps99
 go_wp2
 go_loopw [7, 8] (fun o i wr => ∃ (q : Nat) (r : Int), q ≤ S.nw ∧ i = .int .i64 q ∧ o = .int .i64 r ∧ Hid ((r = -1 ∧ ∀ i, ¬ lastW S.k q key ts i) ∨ ∃ i : Nat, lastW S.k q key ts i ∧ r = i) ∧ Hid (Below w.heap.size w wr)) (fun _ i _ => S.nw - (intOf i).toNat)
 case atStart => exact ⟨0, -1, Nat.zero_le _, rfl, rfl, Or.inl ⟨rfl, fun i hi => absurd hi.1 (Nat.not_lt_zero i)⟩, Below.refl _ _⟩
 case round =>
  obtain ⟨q, r, hq, rfl, rfl, HS, HB⟩ := hrel
  have HL : Hid (LiesO wr b oo S (.slice a0 S.nc c0) (.slice a1 S.nl c1) (.slice a2 S.nw c2)) := H.out.later HB.out
  have e2 := HL.out.1.2.2
  by_cases hlt : q < S.nw
  case neg =>
   obtain rfl : q = S.nw := by omega
   clear HL
   go_wp2
   go_ret
   exact ⟨r, rfl, HS.out, HB.out⟩
  obtain ⟨g, o, rfl, _, hg, x0, x1, x2, x3⟩ := HL.out.2.2.2.at4 hlt
  obtain ⟨n0, N0⟩ : ∃ x, S.k (q * 4) = x := ⟨_, rfl⟩
  rw [N0] at x0
  obtain ⟨n1, N1⟩ : ∃ x, S.k (q * 4 + 1) = x := ⟨_, rfl⟩
  rw [N1] at x1
  obtain ⟨n2, N2⟩ : ∃ x, S.k (q * 4 + 2) = x := ⟨_, rfl⟩
  rw [N2] at x2
  obtain ⟨n3, N3⟩ : ∃ x, S.k (q * 4 + 3) = x := ⟨_, rfl⟩
  rw [N3] at x3
  have hbl := HL.out.lt
  have HE : Hid (Below w.heap.size w (wr.alloc (.cells #[.int .i64 n0, .int .i64 n1, .int .i64 n2, .int .i64 n3] 55))) := HB.out.alloc HB.out.size _
  have LP : lastP S.k key ts q ↔ n0 = key ∧ n1 ≤ ts ∧ n3 ≤ 2 := by unfold lastP; rw [N0, N1, N3]
  by_cases hp : lastP S.k key ts q
  ·obtain ⟨rfl, h1, h3⟩ := LP.1 hp
   have d1 : decide (n1 ≤ ts) = true := decide_eq_true h1
   have d3 : decide (n3 ≤ 2) = true := decide_eq_true h3
   have E : Hid (((q : Int) = -1 ∧ ∀ i, ¬ lastW S.k (q + 1) n0 ts i) ∨ ∃ i : Nat, lastW S.k (q + 1) n0 ts i ∧ (q : Int) = i) := Or.inr ⟨q, ⟨by omega, hp, fun j h1 h2 => by omega⟩, rfl⟩
   clear LP hp N0 N1 N2 N3 HS HL HB h1 h3
   go_wp2
   go_roundw
   case rel => exact ⟨q + 1, q, by omega, by go_num, rfl, E, HE⟩
   case measure => simp [intOf]; omega
  ·have E : Hid ((r = -1 ∧ ∀ i, ¬ lastW S.k (q + 1) key ts i) ∨ ∃ i : Nat, lastW S.k (q + 1) key ts i ∧ r = i) := by
    rcases HS.out with ⟨e, h⟩ | ⟨i, h, e⟩
    ·exact Or.inl ⟨e, fun i hi => h i ((lastW_skip hp i).1 hi)⟩
    ·exact Or.inr ⟨i, (lastW_skip hp i).2 h, e⟩
   have hno : ¬ (n0 = key ∧ n1 ≤ ts ∧ n3 ≤ 2) := fun e => hp (LP.2 e)
   clear LP hp N0 N1 N2 N3 HS HL HB
   by_cases h0 : n0 = key
   case neg =>
    have d0 : (n0 == key) = false := beq_eq_false_iff_ne.2 h0
    clear hno h0
    go_wp2
    go_roundw
    case rel => exact ⟨q + 1, r, by omega, by go_num, rfl, E, HE⟩
    case measure => simp [intOf]; omega
   subst h0
   by_cases h1 : n1 ≤ ts
   case neg =>
    have d1 : decide (n1 ≤ ts) = false := decide_eq_false h1
    clear hno h1
    go_wp2
    go_roundw
    case rel => exact ⟨q + 1, r, by omega, by go_num, rfl, E, HE⟩
    case measure => simp [intOf]; omega
   have d1 : decide (n1 ≤ ts) = true := decide_eq_true h1
   have d3 : decide (n3 ≤ 2) = false := decide_eq_false (fun q => hno ⟨rfl, h1, q⟩)
   clear hno h1
   go_wp2
   go_roundw
   case rel => exact ⟨q + 1, r, by omega, by go_num, rfl, E, HE⟩
   case measure => simp [intOf]; omega
theorem l2Last_noO (S : Sto) (b oo : Nat) (v0 v1 v2 : Value) (key ts : Int) (w : World) (h : LiesO w b oo S v0 v1 v2) (hn : S.nw ≤ 200) (hq : ∀ i, ¬ lastW S.k S.nw key ts i) :
  Calls Tryz.prog 99 #[.pointer (some ⟨b, oo, none⟩), .int .i64 key, .int .i64 ts] w fun e w' => e = .returned (.int .i64 (-1)) ∧ Below w.heap.size w w' :=
 (l2Last_anyO S b oo v0 v1 v2 key ts w h hn).mono fun e w' ⟨r, he, hr, hw⟩ => ⟨by
  rcases hr with ⟨rfl, _⟩ | ⟨i, hi, _⟩
  ·exact he
  ·exact absurd hi (hq i), hw⟩
theorem l2Last_no (S : Sto) (b : Nat) (v0 v1 v2 : Value) (key ts : Int) (w : World) (h : Lies w b S v0 v1 v2) (hn : S.nw ≤ 200) (hq : ∀ i, ¬ lastW S.k S.nw key ts i) :
  Calls Tryz.prog 99 #[.pointer (some ⟨b, 0, none⟩), .int .i64 key, .int .i64 ts] w fun e w' => e = .returned (.int .i64 (-1)) ∧ Below w.heap.size w w' := l2Last_noO S b 0 v0 v1 v2 key ts w h hn hq
theorem l2Last_yesO (S : Sto) (b oo : Nat) (v0 v1 v2 : Value) (key ts : Int) (i : Nat) (w : World) (h : LiesO w b oo S v0 v1 v2) (hn : S.nw ≤ 200) (hq : lastW S.k S.nw key ts i) :
  Calls Tryz.prog 99 #[.pointer (some ⟨b, oo, none⟩), .int .i64 key, .int .i64 ts] w fun e w' => e = .returned (.int .i64 i) ∧ Below w.heap.size w w' :=
 (l2Last_anyO S b oo v0 v1 v2 key ts w h hn).mono fun e w' ⟨r, he, hr, hw⟩ => ⟨by
  rcases hr with ⟨_, h⟩ | ⟨j, hj, rfl⟩
  ·exact absurd hq (h i)
  ·rw [he, hj.one hq], hw⟩
theorem l2Last_yes (S : Sto) (b : Nat) (v0 v1 v2 : Value) (key ts : Int) (i : Nat) (w : World) (h : Lies w b S v0 v1 v2) (hn : S.nw ≤ 200) (hq : lastW S.k S.nw key ts i) :
  Calls Tryz.prog 99 #[.pointer (some ⟨b, 0, none⟩), .int .i64 key, .int .i64 ts] w fun e w' => e = .returned (.int .i64 i) ∧ Below w.heap.size w w' := l2Last_yesO S b 0 v0 v1 v2 key ts i w h hn hq
end
end Go.Proofs.YtiadbiiiikhfaaaGreatDoor

