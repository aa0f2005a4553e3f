/-
  Own text, merged of DelB, CopyA, CmtD, InsV, InsD, DonA, DelP, TxnD, PaiE, DonC, PaiF, DonD, WldJ, TxnE, TxnG, TxnH.
-/
import Derived.Test.YtdbcmckoiacemaaGreatPk5
namespace Go.Proofs.YtdbcmckoiacemaaGreat
section
open Go.RowKit Go.Lib
/-- Block g is a row of N cells of type e. -/
def Blkk (x : World) (g : Nat) (e : TypeId) (N : Nat) : Prop := ∃ cur, x.heap[g]? = some (.cells cur e) ∧ cur.size = N
theorem Blkk.kept {x x' : World} {g : Nat} {e : TypeId} {N : Nat} (h : Blkk x g e N) (hb : x'.heap[g]? = x.heap[g]?) : Blkk x' g e N := by
  obtain ⟨cur, h1, h2⟩ := h
  exact ⟨cur, hb.trans h1, h2⟩
theorem Blkk.lt {x : World} {g : Nat} {e : TypeId} {N : Nat} (h : Blkk x g e N) : g < x.heap.size := by
  obtain ⟨cur, h1, _⟩ := h
  exact (Array.getElem?_eq_some_iff.1 h1).1
theorem Blkk.set {x : World} {g : Nat} {e : TypeId} {N : Nat} (h : Blkk x g e N) (o : Nat) (u : Value) : Blkk (x.setCell ⟨g, o, none⟩ u) g e N := by
  obtain ⟨cur, h1, h2⟩ := h
  refine ⟨cur.setIfInBounds o u, ?_, by simpa using h2⟩
  simp [World.setCell, Array.getElem?_modify, h1]
theorem Blkk.sets {g : Nat} {e : TypeId} {N : Nat} : ∀ (vs : List Value) (o : Nat) (x : World), Blkk x g e N → Blkk (x.setCells g o vs) g e N
  | [], _, _, h => h
  | v :: r, o, _, h => Blkk.sets r (o + 1) _ (h.set o v)
theorem Blkk.cell {x : World} {g : Nat} {e : TypeId} {N : Nat} (h : Blkk x g e N) {p : Nat} (hp : p < N) : (∃ u, x.cell? ⟨g, p, none⟩ = some u) ∧ x.frozen? ⟨g, p, none⟩ = false := by
  obtain ⟨cur, h1, h2⟩ := h
  refine ⟨⟨cur[p]'(by omega), ?_⟩, ?_⟩
  · simp [World.cell?, h1]
  · simp [World.frozen?, h1]
theorem own_of {x : World} {B g : Nat} {e : TypeId} {m n cap : Nat} {F : Nat → Int} (h : Blkk x g e (cap * m)) (hB : B ≤ g) (hn : n ≤ cap) (hc : cap ≤ maxLen) (hF : ∀ p, p < n * m → x.cell? ⟨g, p, none⟩ = some (.int .i64 (F p))) : Own x B e m n F (.slice (some ⟨g, 0, none⟩) n cap) := by
  obtain ⟨cur, h1, h2⟩ := h
  refine ⟨vals_length _ _, Or.inr ⟨g, cap, cur, rfl, hB, h1, hn, hc, h2, ?_⟩⟩
  apply List.ext_getElem?
  intro p
  rcases Nat.lt_or_ge p (n * m) with hp | hp
  · rw [vals_at F _ p hp]
    have hle : n * m ≤ cap * m := Nat.mul_le_mul_right m hn
    have := hF p hp
    have hps : p < cur.size := by omega
    simp [World.cell?, h1, hps] at this
    rw [List.getElem?_take, if_pos hp]
    simp [hps, this]
  · rw [List.getElem?_eq_none (by rw [List.length_take]; omega), List.getElem?_eq_none (by rw [vals_length]; exact hp)]
theorem Own.parts {x : World} {B : Nat} {e : TypeId} {m n : Nat} {F : Nat → Int} {v : Value} (h : Own x B e m n F v) : (v = .slice none 0 0 ∧ n = 0) ∨ ∃ g cap, v = .slice (some ⟨g, 0, none⟩) n cap ∧ B ≤ g ∧ n ≤ cap ∧ cap ≤ maxLen ∧ Blkk x g e (cap * m) ∧ ∀ p, p < n * m → x.cell? ⟨g, p, none⟩ = some (.int .i64 (F p)) := by
  have hr := h.row.1
  rcases h.2 with q | ⟨g, cap, cur, rfl, hg, hw, h1, h2, h3, _⟩
  · exact Or.inl q
  · refine Or.inr ⟨g, cap, rfl, hg, h1, h2, ⟨cur, hw, h3⟩, fun p hp => ?_⟩
    have hn : 0 < n := Nat.pos_of_ne_zero (fun e => by subst e; simp at hp)
    obtain ⟨ao, cp, hv, hr⟩ := hr
    obtain ⟨g', o', e, _, _, hc⟩ := hr hn
    simp at hv
    obtain ⟨rfl, rfl⟩ := hv
    simp at e
    obtain ⟨rfl, rfl⟩ := e
    have := hc p hp
    rwa [Nat.zero_add] at this
theorem grown_sets (g : Nat) : ∀ (vs : List Value) (o : Nat) (w : World), w.grownBy (w.setCells g o vs) (some g)
  | [], _, _ => ⟨rfl, rfl, rfl, Nat.le_refl _, fun _ _ _ => rfl⟩
  | v :: r, o, w => by
    have ih := grown_sets g r (o + 1) (w.setCell ⟨g, o, none⟩ v)
    refine ⟨ih.os, ih.tape, ih.output, Nat.le_trans (by simp) ih.size, fun i hi hne => (ih.block i (by simpa using hi) hne).trans (Below.heap_setCell w _ _ i (fun e => hne (by rw [e])))⟩
end

section
open Go.RowKit Go.Lib
theorem Own.congr {x : World} {B : Nat} {e : TypeId} {m n : Nat} {F G : Nat → Int} {v : Value} (h : Own x B e m n F v) (hF : ∀ p, p < n * m → F p = G p) : Own x B e m n G v := by
  have hv : vals F (n * m) = vals G (n * m) := by
    unfold vals
    refine List.map_congr_left (fun p hp => ?_)
    rw [hF p (List.mem_range.1 hp)]
  unfold Own at *
  rw [← hv]
  exact h
end
end Go.Proofs.YtdbcmckoiacemaaGreat

namespace Go.Proofs.YtdbcmckoiacemaaGreat
open Go.RowKit

theorem own_kept {w w' : World} {B : Nat} {e : TypeId} {m n : Nat} {F : Nat → Int} {v : Value} (h : Own w B e m n F v) (hb : ∀ k, v.ownBlock = some k → w'.heap[k]? = w.heap[k]?) : Own w' B e m n F v := by
  refine ⟨h.1, ?_⟩
  rcases h.2 with q | ⟨g, cap, cur, rfl, hg, hw, r⟩
  · exact Or.inl q
  · exact Or.inr ⟨g, cap, cur, rfl, hg, (hb g rfl).trans hw, r⟩
theorem Blk3.grown {c c' : World} {b q : Nat} {a0 a1 a2 : Value} (h : Blk3 c b a0 a1 a2) (hg : c.grownBy c' (some q)) (hne : b ≠ q) : Blk3 c' b a0 a1 a2 := h.kept (hg.block b h.lt (by simp; exact hne))
end Go.Proofs.YtdbcmckoiacemaaGreat

namespace Go.Proofs.YtdbcmckoiacemaaGreat
section
open Go.RowKit
end

section
open Go.RowKit
/-- One more struct in its place. -/
def insF (F : Nat → Int) (m n k : Nat) (xs : List Int) : Nat → Int := fun p => (nums F (k * m) ++ xs ++ nums (fun p => F (k * m + p)) ((n - k) * m)).getD p 0
end
section
open Go.RowKit
theorem placeAt.one {p : Nat → Prop} {n i k : Nat} (h : placeAt p n i) (h' : placeAt p n k) : i = k := by
  rcases Nat.lt_trichotomy i k with q | q | q
  · exact (h.2.2 (by have := h'.1; omega) (h'.2.1 i q)).elim
  · exact q
  · exact (h'.2.2 (by have := h.1; omega) (h.2.1 k q)).elim
end
section
open Go.RowKit
end
end Go.Proofs.YtdbcmckoiacemaaGreat

namespace Go.Proofs.YtdbcmckoiacemaaGreat
section
open Go.RowKit Go.Lib
/-- 'copy(d, s)' at slices of structs of m cells: what s held goes over. -/
theorem run_copyM (w : World) (dT sT ty elem : TypeId) (m b o dLen dCap : Nat) (a : Addr) (sLen sCap : Nat) (cs : List Value)
    (hu : Tryz.prog.underlying dT = some (.slice elem)) (hs : (Tryz.prog.info? elem).map (·.size) = some m) (hn : cs.length = Nat.min sLen dLen * m)
    (hsrc : ∀ j v, cs[j]? = some v → w.cell? (a.add j) = some v) (hc : ∀ j, j < cs.length → (w.cell? ⟨b, o + j, none⟩).isSome = true) (hf : ∀ j, j < cs.length → w.frozen? ⟨b, o + j, none⟩ = false) (h1 : ∀ v ∈ cs, v.oneCell' = true) :
    (Builtin.copy_ #[dT, sT] ty #[.slice (some ⟨b, o, none⟩) dLen dCap, .slice (some a) sLen sCap]).run Tryz.prog w = .ok (goInt (Nat.min sLen dLen)) (w.setCells b o cs) := by
  have hl := run_loadCells_list (P := Tryz.prog) w a cs hsrc
  have hst := run_storeCells_cells (P := Tryz.prog) b o cs 0 w (by simpa using hc) (by simpa using hf) h1
  cases hq : Tryz.prog.info? elem with
  | none => simp [hq] at hs
  | some i =>
    have hi : i.size = m := by simpa [hq] using hs
    simp [Builtin.copy_, run_underlying hu, Builtin.lenOf, Builtin.firstCells, sizeOf, typeInfo, hq, hi, ← hn, hl, hst]
theorem wpList_appM (w : World) {ops : Array Oper} {rest : List Oper} {o : Oper} {a : Act} {Q : Exit → Act → World → Prop} (hgd : o.guard = none) (d s : Operand) (t t' : TypeId)
    (ho : o.op = .call { callee := .builtin .append, args := #[d, s], argTypes := #[t, t'] }) (v u : Value) (hd : a.eval d = v) (hs : a.eval s = u) {v' : Value} {w' : World}
    (hr : (Builtin.append_ #[t, t'] o.type #[v, u]).run Tryz.prog w = .ok v' w') (h : wpList Tryz.prog ops Q rest (a.put o.dst v') w') : wpList Tryz.prog ops Q (o :: rest) a w := by
  refine wpList_plain hgd fun K hK => ?_
  unfold Oper.wp execOp
  simp only [ho, resolve, invoke, builtin, Sem.run_bind, Sem.run_pure, Result.andThen_ok, List.map_toArray, List.map_cons, List.map_nil, hd, hs, hr]
  exact hK _ _ h
theorem step_copyM {ops : Array Oper} {o : Oper} {a : Act} {w : World} {K : Act → World → Prop} {Q : Exit → Act → World → Prop} {E : Prop}
    (hg : o.guard = none) (d x : Operand) (dT sT : TypeId) (hop : o.op = Op.call { callee := Callee.builtin Builtin.copy, args := #[d, x], argTypes := #[dT, sT] })
    (v u : Value) (hd : a.eval d = v) (hx : a.eval x = u) {v' : Value} {w' : World} (hr : (Builtin.copy_ #[dT, sT] o.type #[v, u]).run Tryz.prog w = .ok v' w') (hK : K (a.put o.dst v') w') :
    if Region.wanted o (yielded ops a.tmps) = true then Oper.wp Tryz.prog o a w K Q else E := by
  have hw : Region.wanted o (yielded ops a.tmps) = true := by simp [Region.wanted, hg]
  rw [if_pos hw]
  unfold Oper.wp
  simp [execOp, hop, resolve, invoke, builtin, hd, hx, hr, Result.andThen]
  exact hK
theorem grown_drew (w : World) (r : Option Nat) : w.grownBy w.drew r := ⟨rfl, rfl, rfl, Nat.le_refl _, fun _ _ _ => rfl⟩
theorem grown_trans {a b c : World} {r : Option Nat} (h : a.grownBy b r) (h' : b.grownBy c r) : a.grownBy c r :=
  ⟨h'.os.trans h.os, h'.tape.trans h.tape, h'.output.trans h.output, Nat.le_trans h.size h'.size, fun i hi hne => (h'.block i (Nat.lt_of_lt_of_le hi h.size) hne).trans (h.block i hi hne)⟩
theorem grown_over {a b c : World} {r : Option Nat} {z : Nat} (h : a.grownBy b r) (h' : b.grownBy c (some z)) (hz : a.heap.size ≤ z) : a.grownBy c r :=
  ⟨h'.os.trans h.os, h'.tape.trans h.tape, h'.output.trans h.output, Nat.le_trans h.size h'.size, fun i hi hne => (h'.block i (Nat.lt_of_lt_of_le hi h.size) (fun e => by cases e; omega)).trans (h.block i hi hne)⟩
theorem grown_alloc (w : World) (o : Obj) (r : Option Nat) : w.grownBy (w.alloc o) r := ⟨rfl, rfl, rfl, by simp, fun i hi _ => Below.block (below_alloc w o) i hi⟩
theorem Blkk.frozen {x : World} {g : Nat} {e : TypeId} {N : Nat} (h : Blkk x g e N) (p : Nat) : x.frozen? ⟨g, p, none⟩ = false := by
  obtain ⟨cur, h1, _⟩ := h
  simp [World.frozen?, h1]
theorem drew_cell (x : World) (a : Addr) : x.drew.cell? a = x.cell? a := rfl
theorem Blkk.drew {x : World} {g : Nat} {e : TypeId} {N : Nat} (h : Blkk x g e N) : Blkk x.drew g e N := h
theorem Blkk.made (w : World) (ROW : Array Value) (e : TypeId) (N : Nat) (h : ROW.size = N) : Blkk (w.alloc (.cells ROW e)) w.heap.size e N := ⟨ROW, by show (w.heap.push _)[w.heap.size]? = _; simp, h⟩
theorem Blkk.any {x : World} {g : Nat} {e : TypeId} {N : Nat} (h : Blkk x g e N) {p : Nat} (hp : p < N) : (x.cell? ⟨g, p, none⟩).isSome = true := by
  obtain ⟨u, hu⟩ := (h.cell hp).1
  rw [hu]; rfl
theorem Blkk.shape {x : World} {g : Nat} {e : TypeId} {N : Nat} (h : Blkk x g e N) : x.shape? g = some (e, N) := by
  obtain ⟨cur, h1, h2⟩ := h
  simp [World.shape?, h1, h2]
theorem insF_lt {F : Nat → Int} {m n i p : Nat} {xs : List Int} (hp : p < i * m) : insF F m n i xs p = F p := by
  unfold insF
  rw [List.append_assoc, List.getD_eq_getElem?_getD, List.getElem?_append_left (by rw [nums_length]; exact hp)]
  simp [nums, hp]
theorem insF_at {F : Nat → Int} {m n i p : Nat} {xs : List Int} (hx : xs.length = m) (hp : p < m) : insF F m n i xs (i * m + p) = xs.getD p 0 := by
  unfold insF
  rw [List.append_assoc, List.getD_eq_getElem?_getD, List.getElem?_append_right (by rw [nums_length]; omega), nums_length, Nat.add_sub_cancel_left, List.getElem?_append_left (by omega), List.getD_eq_getElem?_getD]
theorem insF_gt {F : Nat → Int} {m n i p : Nat} {xs : List Int} (hx : xs.length = m) (hp : p < (n - i) * m) : insF F m n i xs ((i + 1) * m + p) = F (i * m + p) := by
  unfold insF
  have e : (i + 1) * m = i * m + m := Nat.succ_mul _ _
  rw [List.append_assoc, List.getD_eq_getElem?_getD, List.getElem?_append_right (by rw [nums_length]; omega), nums_length, List.getElem?_append_right (by omega), show (i + 1) * m + p - i * m - xs.length = p by omega]
  simp [nums, hp]
/-- The cells of a row into which a struct was put. -/
theorem ins_cells {x : World} {g m n i : Nat} {F : Nat → Int} {xs : List Int} (hx : xs.length = m) (hi : i ≤ n) (h1 : ∀ p, p < i * m → x.cell? ⟨g, p, none⟩ = some (.int .i64 (F p))) (h2 : ∀ p, p < m → x.cell? ⟨g, i * m + p, none⟩ = some (.int .i64 (xs.getD p 0)))
    (h3 : ∀ p, p < (n - i) * m → x.cell? ⟨g, (i + 1) * m + p, none⟩ = some (.int .i64 (F (i * m + p)))) : ∀ p, p < (n + 1) * m → x.cell? ⟨g, p, none⟩ = some (.int .i64 (insF F m n i xs p)) := by
  intro p hp
  have e : (i + 1) * m = i * m + m := Nat.succ_mul _ _
  have e2 : (n + 1) * m = (i + 1) * m + (n - i) * m := by rw [← Nat.add_mul]; congr 1; omega
  by_cases a1 : p < i * m
  · rw [h1 p a1, insF_lt a1]
  · by_cases a2 : p < (i + 1) * m
    · have := h2 (p - i * m) (by omega)
      rw [← insF_at (F := F) (n := n) (i := i) hx (by omega), show i * m + (p - i * m) = p by omega] at this
      exact this
    · have := h3 (p - (i + 1) * m) (by omega)
      rw [← insF_gt (F := F) (n := n) (xs := xs) hx (by omega), show (i + 1) * m + (p - (i + 1) * m) = p by omega] at this
      exact this
theorem sets_in (g o N : Nat) (F : Nat → Int) (w : World) (h : ∀ j, j < N → (w.cell? ⟨g, o + j, none⟩).isSome = true) {p : Nat} (hp : p < N) : (w.setCells g o (vals F N)).cell? ⟨g, o + p, none⟩ = some (.int .i64 (F p)) := by
  rw [World.cell?_setCells_in g (vals F N) o w (fun j hj => h j (by rwa [vals_length] at hj)) p (by rw [vals_length]; exact hp)]
  simp [vals]
/-- An append of one struct lies in the row's own block or in a new one. -/
theorem app_block (t ty e : TypeId) (i : TypeInfo) (z : Value) (m bytes : Nat) (ht : Tryz.prog.underlying t = some (.slice e)) (hi : Tryz.prog.info? e = some i) (hz : i.zero = some z) (hsize : i.size = m) (hby : i.bytes = bytes) (hb5 : bytes ≤ 1000)
    (w : World) (B n : Nat) (F X : Nat → Int) (v : Value) (h : Own w B e m n F v) (hn : n < 1048576) (a : Addr) (vc : Nat) (hx : ∀ p, p < m → w.cell? (a.add p) = some (.int .i64 (X p))) {v' : Value} {w' : World}
    (hr : (Builtin.append_ #[t, t] ty #[v, .slice (some a) 1 vc]).run Tryz.prog w = .ok v' w') : ∀ q, v'.ownBlock = some q → v.ownBlock = some q ∨ w.heap.size ≤ q := by
  have hbb : (n + 1) * bytes ≤ 1048576 * 1000 := Nat.mul_le_mul (by omega) hb5
  have hc : ∀ j u, (vals X m)[j]? = some u → w.cell? (a.add j) = some u := fun j u hj => by obtain ⟨h1, rfl⟩ := vals_inv hj; exact hx j h1
  have hsrc : Src Tryz.prog i.size t (.slice (some a) 1 vc) 1 (vals X m) w := Src.ofSlice w ht a 1 vc _ (by rw [vals_length, hsize, Nat.one_mul]) hc (vals_one _ _)
  rcases h.parts with ⟨rfl, rfl⟩ | ⟨g, c, rfl, hg, hnc, hcm, hb, hF⟩
  · have h2 := run_append_grow_src w t t ty e i z ht hi hz none 0 0 [] (run_firstCells_none w.drew _ 0 0 0) _ 1 _ hsrc (by omega) (by omega) (by rw [hby]; exact growslice_fits (by omega) (by omega))
    rw [h2] at hr
    cases hr
    intro q hq
    cases hq
    exact Or.inr (Nat.le_refl _)
  · by_cases hroom : n + 1 ≤ c
    · have hm1 : (n + 1) * m ≤ c * m := Nat.mul_le_mul_right m hroom
      have e1 : (n + 1) * m = n * m + m := Nat.succ_mul _ _
      have h2 := run_append_room_cells w t ty e i ht hi g 0 n c a 1 vc (vals X m) (by rw [vals_length, hsize, Nat.one_mul]) hc (vals_one _ _) hroom (fun j hj => by rw [vals_length] at hj; rw [hsize]; exact hb.any (by omega)) (fun j hj => hb.frozen _)
      rw [h2] at hr
      cases hr
      intro q hq
      exact Or.inl hq
    · have h2 := run_append_grow_src w t t ty e i z ht hi hz (some ⟨g, 0, none⟩) n c (vals F (n * m)) (by rw [hsize]; exact run_firstCells_some w.drew m n _ n c _ (vals_length _ _) (fun j u hj => by obtain ⟨h1, rfl⟩ := vals_inv hj; rw [Addr.add_lit, Nat.zero_add]; exact hF j h1)) _ 1 _ hsrc (by omega) (by omega) (by rw [hby]; exact growslice_fits (by omega) (by omega))
      rw [h2] at hr
      cases hr
      intro q hq
      cases hq
      exact Or.inr (Nat.le_refl _)
end

section
open Go.RowKit Go.Lib
end

section
open Go.RowKit Go.Lib
end
end Go.Proofs.YtdbcmckoiacemaaGreat

namespace Go.Proofs.YtdbcmckoiacemaaGreat
open Go.RowKit Go.Lib
theorem infoz_Done : (Tryz.prog.info? 110).map (fun i => (i.zero, i.size, i.bytes)) = some (some (.agg #[.int .i64 0, .int .i64 0]), 2, 16) := by kernel_rfl

theorem sizeD : (Tryz.prog.info? 110).map (·.size) = some 2 := by kernel_rfl
theorem underD : Tryz.prog.underlying 32 = some (.slice 110) := by kernel_rfl

set_option maxHeartbeats 4000000 in
set_option maxRecDepth 100000 in
/-- There is room, i is a place ahead of the end: in place. -/
theorem insD_shift (w : World) (g n c i vb vc : Nat) (F : Nat → Int) (X : Nat → Int) (hb : Blkk w g 110 (c * 2)) (hroom : n + 1 ≤ c) (hc63 : c ≤ 9223372036854775807) (hi : i < n) (hF : ∀ p, p < n * 2 → w.cell? ⟨g, p, none⟩ = some (.int .i64 (F p)))
    (hvb : vb ≠ g) (hv : Blkk w vb 110 2) (hxs : ∀ p, p < 2 → w.cell? ⟨vb, p, none⟩ = some (.int .i64 (X p))) :
    Calls Tryz.prog 107 #[.slice (some ⟨g, 0, none⟩) n c, .int .i64 i, .slice (some ⟨vb, 0, none⟩) 1 vc] w fun e w' =>
      e = .returned (.slice (some ⟨g, 0, none⟩) (n + 1) c) ∧ w' = (w.drew.setCells g ((i + 1) * 2) (vals (fun p => F (i * 2 + p)) ((n - i) * 2))).setCells g (i * 2) (vals X 2) := by
  have hz2 : ¬ ((i : Int) = (n : Int)) := by omega
  have hov : ∀ lb cb, (callFunc 151 #[.slice (some ⟨vb, 0, none⟩) 1 vc, .slice (some ⟨g, (i + 1) * 2, none⟩) lb cb]).run Tryz.prog w = .ok (.value (.bool false)) w := fun lb cb => by
    rw [run_callFunc_extern Tryz.func151 (by kernel_rfl) (by kernel_rfl) (by kernel_rfl) (e := Extern.SlicesOverlaps.overlaps #[32, 32] #[4]) (by kernel_rfl),
      Lib.run_overlaps_apart w _ _ 110 underD 2 (fun w => by kernel_rfl) ⟨vb, 0, none⟩ ⟨g, (i + 1) * 2, none⟩ 1 vc lb cb hvb _ _ _ _ hv.shape hb.shape (by omega) (hv.frozen _) (hv.frozen _)]
    rfl
  have hw1 : IntKind.i64.wrap ((i : Int) + 1) = (i : Int) + 1 := by rw [IntKind.wrap_i64]; omega
  have hw2 : IntKind.i64.wrap ((n : Int) + 1) = (n : Int) + 1 := by rw [IntKind.wrap_i64]; omega
  have hb1 : (0 : Int) ≤ (i : Int) + 1 := by omega
  have hin : i ≤ n := by omega
  have htn : ((i : Int) + 1).toNat = i + 1 := by omega
  have htn' : ((n : Int) + 1).toNat = n + 1 := by omega
  have hb2 : ¬ (c = i + 1) := by omega
  have hb3 : (i : Int) ≤ (n : Int) + 1 := by omega
  have hb4 : ¬ (c = i) := by omega
  have hb5 : ¬ ((c : Int) < (n : Int) + 1) := by omega
  have hb6 : (0 : Int) ≤ (n : Int) + 1 := by omega
  have hb7 : (n : Int) + 1 ≤ (c : Int) := by omega
  have hb8 : (i : Int) + 1 ≤ (n : Int) + 1 := by omega
  have hm1 : (n + 1) * 2 ≤ c * 2 := Nat.mul_le_mul_right 2 hroom
  have hcp1 : ∀ ty dc sc, (Builtin.copy_ #[32, 32] ty #[.slice (some ⟨g, (i + 1) * 2, none⟩) (n - i) dc, .slice (some ⟨g, i * 2, none⟩) (n + 1 - i) sc]).run Tryz.prog w.drew = .ok (goInt (Nat.min (n + 1 - i) (n - i))) (w.drew.setCells g ((i + 1) * 2) (vals (fun p => F (i * 2 + p)) ((n - i) * 2))) := fun ty dc sc =>
    run_copyM w.drew _ _ ty 110 2 g _ _ dc ⟨g, i * 2, none⟩ _ sc _ underD sizeD (by rw [vals_length]; congr 1; simp only [Nat.min_def]; split <;> omega)
      (fun j v hj => by obtain ⟨h1, rfl⟩ := vals_inv hj; rw [Addr.add_lit]; exact hF _ (by omega))
      (fun j hj => by rw [vals_length] at hj; exact hb.any (by omega)) (fun j hj => hb.frozen _) (vals_one _ _)
  obtain ⟨W1, hW1⟩ : ∃ W1, W1 = w.drew.setCells g ((i + 1) * 2) (vals (fun p => F (i * 2 + p)) ((n - i) * 2)) := ⟨_, rfl⟩
  have hbW : Blkk W1 g 110 (c * 2) := by rw [hW1]; exact Blkk.sets _ _ _ hb
  have hcp2 : ∀ ty dc, (Builtin.copy_ #[32, 32] ty #[.slice (some ⟨g, i * 2, none⟩) (n + 1 - i) dc, .slice (some ⟨vb, 0, none⟩) 1 vc]).run Tryz.prog W1 = .ok (goInt (Nat.min 1 (n + 1 - i))) (W1.setCells g (i * 2) (vals X 2)) := fun ty dc =>
    run_copyM W1 _ _ ty 110 2 g _ _ dc ⟨vb, 0, none⟩ 1 vc _ underD sizeD (by rw [vals_length]; simp only [Nat.min_def]; split <;> omega)
      (fun j v hj => by
        obtain ⟨h1, rfl⟩ := vals_inv hj
        rw [Addr.add_lit, hW1, World.cell?_setCells_out g _ _ _ _ (fun h _ => absurd h hvb), Nat.zero_add]
        exact hxs j h1)
      (fun j hj => by rw [vals_length] at hj; exact hbW.any (by omega)) (fun j hj => hbW.frozen _) (vals_one _ _)
  subst hW1
  clear hF hxs hb hv hbW
  go_enter Tryz.func107, Tryz.ntmps107
  go_wp2_with (simp only [hov])
  go_region_law (refine step_copyM rfl _ _ 32 32 rfl _ _ (by simp [Act.eval, Act.put]) (by simp [Act.eval, Act.put]) (hcp1 _ _ _) ?_)
  go_wp2_with (simp only [hcp2])
  go_ret
  exact ⟨rfl, rfl⟩

set_option maxHeartbeats 4000000 in
set_option maxRecDepth 100000 in
/-- There is no room, i is a place ahead of the end: a new row. -/
theorem insD_grow (w : World) (g n c i vb vc : Nat) (F : Nat → Int) (X : Nat → Int) (hb : Blkk w g 110 (c * 2)) (hnc : n ≤ c) (hroom : c < n + 1) (hn : n ≤ 1048576) (hi : i < n) (hF : ∀ p, p < n * 2 → w.cell? ⟨g, p, none⟩ = some (.int .i64 (F p)))
    (hv : Blkk w vb 110 2) (hxs : ∀ p, p < 2 → w.cell? ⟨vb, p, none⟩ = some (.int .i64 (X p))) :
    Calls Tryz.prog 107 #[.slice (some ⟨g, 0, none⟩) n c, .int .i64 i, .slice (some ⟨vb, 0, none⟩) 1 vc] w fun e w' =>
      ∃ G ROW, (G ≤ maxLen ∧ n + 1 ≤ G ∧ ROW.size = G * 2 ∧ (∀ p, p < i * 2 → ROW[p]? = some (.int .i64 (F p)))) ∧ e = .returned (.slice (some ⟨w.heap.size, 0, none⟩) (n + 1) G) ∧ w' = (((w.alloc (.cells ROW 110)).drew.setCells w.heap.size (i * 2) (vals X 2)).drew).setCells w.heap.size ((i + 1) * 2) (vals (fun p => F (i * 2 + p)) ((n - i) * 2)) := by
  have hz2 : ¬ ((i : Int) = (n : Int)) := by omega
  have hz3 : (c : Int) < (n : Int) + 1 := by omega
  obtain ⟨i0, hi0, hz0, hzs, hzb⟩ := info_parts infoz_Done
  have hgw := hb.lt
  have hvw := hv.lt
  have hkk : (n : Int) + 1 - (i : Int) = ((n + 1 - i : Nat) : Int) := by omega
  have hik : i + (n + 1 - i) = n + 1 := by omega
  have hmi : i * 2 ≤ n * 2 := Nat.mul_le_mul_right 2 (by omega)
  have hold : (Builtin.firstCells i0.size i (.slice (some ⟨g, 0, none⟩) i c)).run Tryz.prog w.drew = .ok (vals F (i * 2)).toArray w.drew := by
    rw [hzs]
    exact run_firstCells_some w.drew 2 i ⟨g, 0, none⟩ i c (vals F (i * 2)) (by rw [vals_length]) (fun j v hj => by
      obtain ⟨h1, rfl⟩ := vals_inv hj
      rw [Addr.add_lit, Nat.zero_add]
      exact hF j (by omega))
  have hrz : ∀ ty, ∃ G ROW, (G ≤ maxLen ∧ n + 1 ≤ G ∧ ROW.size = G * 2 ∧ (∀ p, p < i * 2 → ROW[p]? = some (.int .i64 (F p)))) ∧ (Builtin.append_ #[32, 3] ty #[.slice (some ⟨g, 0, none⟩) i c, .int .i64 ((n : Int) + 1 - (i : Int))]).run Tryz.prog w = .ok (.slice (some ⟨w.heap.size, 0, none⟩) (n + 1) G) (w.drew.alloc (.cells ROW 110)) := fun ty => by
    have h := Lib.run_append_grow_zeros w 32 3 ty 110 i0 _ .i64 .i64 underD (by kernel_rfl) hi0 hz0 (some ⟨g, 0, none⟩) i c (vals F (i * 2)) hold (n + 1 - i) (by omega) (by omega) (by omega) (by omega) (by rw [hzb]; omega) (by rw [hzb, hik]; exact growslice_fits hroom (by omega))
    rw [hik] at h
    rw [hkk]
    have hG1 := grownCap_ge w (n + 1) c 110
    have hG2 := grownCap_le_maxLen w (n + 1) c 110 (by unfold maxLen; omega)
    refine ⟨_, _, ⟨hG2, hG1, ?_, ?_⟩, h⟩
    · simp [Builtin.zeroCells, Value.cells, vals_length]
      omega
    · intro p hp
      rw [Array.append_assoc, Array.getElem?_append_left (by simp [vals_length]; exact hp)]
      simp [vals, hp]
  obtain ⟨G, ROW, hG, hrw⟩ := hrz 32
  clear hrz
  obtain ⟨hG63, hGn, hRl, hR⟩ := hG
  have hm1 : (n + 1) * 2 ≤ G * 2 := Nat.mul_le_mul_right 2 hGn
  have hN : Blkk (w.alloc (.cells ROW 110)).drew w.heap.size 110 (G * 2) := (Blkk.made w ROW _ _ hRl).drew
  have hOb : ∀ j b, b < w.heap.size → (w.alloc (.cells ROW 110)).drew.cell? ⟨b, j, none⟩ = w.cell? ⟨b, j, none⟩ := fun j b h => by rw [drew_cell]; exact World.cell?_alloc_past (w := w) _ b j h
  have hcpA' : ∀ ty dc, (Builtin.copy_ #[32, 32] ty #[.slice (some ⟨w.heap.size, i * 2, none⟩) (n + 1 - i) dc, .slice (some ⟨vb, 0, none⟩) 1 vc]).run Tryz.prog (w.alloc (.cells ROW 110)).drew = .ok (goInt (Nat.min 1 (n + 1 - i))) ((w.alloc (.cells ROW 110)).drew.setCells w.heap.size (i * 2) (vals X 2)) := fun ty dc =>
    run_copyM _ _ _ ty 110 2 w.heap.size _ _ dc ⟨vb, 0, none⟩ 1 vc _ underD sizeD (by rw [vals_length]; simp only [Nat.min_def]; split <;> omega)
      (fun j v hj => by
        obtain ⟨h1, rfl⟩ := vals_inv hj
        rw [Addr.add_lit, hOb _ _ hvw, Nat.zero_add]
        exact hxs j h1)
      (fun j hj => by rw [vals_length] at hj; exact hN.any (by omega)) (fun j hj => hN.frozen _) (vals_one _ _)
  obtain ⟨W2, hW2⟩ : ∃ W2, W2 = (w.alloc (.cells ROW 110)).drew.setCells w.heap.size (i * 2) (vals X 2) := ⟨_, rfl⟩
  have hN2 : Blkk W2.drew w.heap.size 110 (G * 2) := by rw [hW2]; exact (Blkk.sets _ _ _ hN).drew
  have hcpB' : ∀ ty dc sc, (Builtin.copy_ #[32, 32] ty #[.slice (some ⟨w.heap.size, (i + 1) * 2, none⟩) (n - i) dc, .slice (some ⟨g, i * 2, none⟩) (n - i) sc]).run Tryz.prog W2.drew = .ok (goInt (Nat.min (n - i) (n - i))) (W2.drew.setCells w.heap.size ((i + 1) * 2) (vals (fun p => F (i * 2 + p)) ((n - i) * 2))) := fun ty dc sc =>
    run_copyM _ _ _ ty 110 2 w.heap.size _ _ dc ⟨g, i * 2, none⟩ _ sc _ underD sizeD (by rw [vals_length]; congr 1; simp only [Nat.min_def]; split <;> omega)
      (fun j v hj => by
        obtain ⟨h1, rfl⟩ := vals_inv hj
        rw [Addr.add_lit, drew_cell, hW2, World.cell?_setCells_out _ _ _ _ _ (fun h _ => absurd h (show g ≠ w.heap.size by omega)), hOb _ _ hgw]
        exact hF _ (by omega))
      (fun j hj => by rw [vals_length] at hj; exact hN2.any (by omega)) (fun j hj => hN2.frozen _) (vals_one _ _)
  clear hN2
  subst hW2
  have hG63' : G ≤ 9223372036854775807 := by unfold maxLen at hG63; omega
  have hGi : ¬ (G = i) := by omega
  have hGim : ¬ (G = i + 1) := by omega
  have hci : ¬ (c = i) := by omega
  have hw1 : IntKind.i64.wrap ((i : Int) + 1) = (i : Int) + 1 := by rw [IntKind.wrap_i64]; omega
  have hw2 : IntKind.i64.wrap ((n : Int) + 1) = (n : Int) + 1 := by rw [IntKind.wrap_i64]; omega
  have hw3 : IntKind.i64.wrap ((n : Int) + 1 - (i : Int)) = (n : Int) + 1 - (i : Int) := by rw [IntKind.wrap_i64]; omega
  have hb1 : (0 : Int) ≤ (i : Int) + 1 := by omega
  have hin : i ≤ n := by omega
  have htn : ((i : Int) + 1).toNat = i + 1 := by omega
  have hb3 : (i : Int) ≤ (n : Int) := by omega
  have hb8 : (i : Int) + 1 ≤ (n : Int) + 1 := by omega
  have hb9 : (i : Int) ≤ (n : Int) + 1 := by omega
  refine Calls.mono (R := fun e w' => e = .returned (.slice (some ⟨w.heap.size, 0, none⟩) (n + 1) G) ∧ w' = (((w.alloc (.cells ROW 110)).drew.setCells w.heap.size (i * 2) (vals X 2)).drew).setCells w.heap.size ((i + 1) * 2) (vals (fun p => F (i * 2 + p)) ((n - i) * 2))) ?_ (fun e w' h => ⟨G, ROW, ⟨hG63, hGn, hRl, hR⟩, h.1, h.2⟩)
  clear hkk hik hold hRl hR hG63 hN hOb hF hxs hb hv hi0 hz0 hzs hzb hm1 hmi
  go_enter Tryz.func107, Tryz.ntmps107
  go_wp2_with (first | (at_builtin; refine wpList_appM _ rfl _ _ 32 3 rfl (.slice (some ⟨g, 0, none⟩) i c) (.int .i64 ((n : Int) + 1 - (i : Int))) rfl rfl hrw ?_) | (simp only [hcpA']))
  go_region_law (refine step_copyM rfl _ _ 32 32 rfl _ _ (by simp [Act.eval, Act.put]) (by simp [Act.eval, Act.put]) (hcpB' _ _ _) ?_)
  go_wp2
  go_ret
  exact ⟨rfl, rfl⟩

/-- What slices.Insert answers: the row with the struct at place i; nothing else has turned but the row's own block. -/
def InsD (w : World) (B n i : Nat) (F : Nat → Int) (xs : List Int) (v : Value) (e : Ending) (w' : World) : Prop :=
  ∃ ao cp, e = .returned (.slice ao (n + 1) cp) ∧ Own w' B 110 2 (n + 1) (insF F 2 n i xs) (.slice ao (n + 1) cp) ∧ w.grownBy w' v.ownBlock ∧ ∀ q, (Value.slice ao (n + 1) cp).ownBlock = some q → v.ownBlock = some q ∨ w.heap.size ≤ q
set_option maxHeartbeats 4000000 in
set_option maxRecDepth 100000 in
theorem insD_end (w : World) (B n vb vc : Nat) (F : Nat → Int) (xs : List Int) (v : Value) (hx : xs.length = 2) (h : Own w B 110 2 n F v) (hB : B ≤ w.heap.size) (hn : n < 1048576)
    (hv : Blkk w vb 110 2) (hxs : ∀ p, p < 2 → w.cell? ⟨vb, p, none⟩ = some (.int .i64 (xs.getD p 0))) :
    Calls Tryz.prog 107 #[v, .int .i64 n, .slice (some ⟨vb, 0, none⟩) 1 vc] w (InsD w B n n F xs v) := by
  have hrow : Row w 0 2 1 (fun p => xs.getD p 0) (.slice (some ⟨vb, 0, none⟩) 1 vc) := ⟨_, _, rfl, fun _ => ⟨vb, 0, rfl, Nat.zero_le _, hv.lt, fun p hp => by rw [Nat.zero_add]; exact hxs p (by omega)⟩⟩
  have hown : OwnM w B 110 2 v n (nums F (n * 2)) := by unfold OwnM; rw [nums_vals]; exact h
  obtain ⟨i0, hi0, hz0, hzs, hzb⟩ := info_parts infoz_Done
  have hend : ∀ ao cp w', OwnM w' B 110 2 (.slice ao (n + 1) cp) (n + 1) (nums F (n * 2) ++ nums (fun p => xs.getD p 0) (1 * 2)) → w.grownBy w' v.ownBlock → (∀ q, (Value.slice ao (n + 1) cp).ownBlock = some q → v.ownBlock = some q ∨ w.heap.size ≤ q) → InsD w B n n F xs v (.returned (.slice ao (n + 1) cp)) w' := fun ao cp w' h1 h2 h3 => by
    refine ⟨ao, cp, rfl, (h1.own (by simp [nums_length]; omega)).congr (fun p hp => ?_), h2, h3⟩
    by_cases a1 : p < n * 2
    · rw [insF_lt a1, List.getD_eq_getElem?_getD, List.getElem?_append_left (by rw [nums_length]; exact a1)]
      simp [nums, a1]
    · have := insF_at (F := F) (n := n) (i := n) (p := p - n * 2) hx (by omega)
      rw [show n * 2 + (p - n * 2) = p by omega] at this
      rw [this, List.getD_eq_getElem?_getD, List.getElem?_append_right (by rw [nums_length]; omega), nums_length]
      simp [nums, show p - n * 2 < 2 by omega]
  obtain ⟨POST, hP⟩ : ∃ POST, POST = InsD w B n n F xs v := ⟨_, rfl⟩
  rw [← hP] at hend ⊢
  obtain ⟨ao, cp, rfl⟩ := h.form
  have hrun : ∀ ty, ∃ ao' cp' w', (Builtin.append_ #[32, 32] ty #[.slice ao n cp, .slice (some ⟨vb, 0, none⟩) 1 vc]).run Tryz.prog w = .ok (.slice ao' (n + 1) cp') w' ∧ POST (.returned (.slice ao' (n + 1) cp')) w' := fun ty => by
    obtain ⟨ao', cp', w', h1, h2, h3⟩ := run_app 32 ty 110 i0 _ 2 _ underD hi0 hz0 hzs hzb rfl (by omega) (by omega) w B n _ _ hown 0 1 _ _ hrow (by omega) hB
    have h4 := app_block 32 ty 110 i0 _ 2 _ underD hi0 hz0 hzs hzb (by omega) w B n F (fun p => xs.getD p 0) _ h (by omega) ⟨vb, 0, none⟩ vc (fun p hp => by rw [Addr.add_lit, Nat.zero_add]; exact hxs p hp) h1
    exact ⟨ao', cp', w', h1, hend _ _ _ h2 h3 h4⟩
  obtain ⟨ao', cp', w', hr, hfin⟩ := hrun 32
  clear hrun hend hown hrow hv hxs hP hi0 hz0 hzs hzb
  rcases h.parts with ⟨q, rfl⟩ | ⟨g, cap, q, _, hnc, hcm, _⟩
  · cases q
    clear h
    go_enter Tryz.func107, Tryz.ntmps107
    go_wp2_with (at_builtin; refine wpList_appM _ rfl _ _ 32 32 rfl (.slice none 0 0) (.slice (some ⟨vb, 0, none⟩) 1 vc) rfl rfl hr ?_)
    exact hfin
  · cases q
    clear h
    unfold maxLen at hcm
    by_cases hcn : cp = n
    · subst hcn
      go_enter Tryz.func107, Tryz.ntmps107
      go_wp2_with (at_builtin; refine wpList_appM _ rfl _ _ 32 32 rfl (.slice (some ⟨g, 0, none⟩) cp cp) (.slice (some ⟨vb, 0, none⟩) 1 vc) rfl rfl hr ?_)
      exact hfin
    · go_enter Tryz.func107, Tryz.ntmps107
      go_wp2_with (at_builtin; refine wpList_appM _ rfl _ _ 32 32 rfl (.slice (some ⟨g, 0, none⟩) n cp) (.slice (some ⟨vb, 0, none⟩) 1 vc) rfl rfl hr ?_)
      exact hfin
/-- slices.Insert of one struct. -/
theorem insD_any (w : World) (B n i vb vc : Nat) (F : Nat → Int) (xs : List Int) (v : Value) (hx : xs.length = 2) (h : Own w B 110 2 n F v) (hB : B ≤ w.heap.size) (hn : n < 1048576) (hi : i ≤ n)
    (hvb : v.ownBlock ≠ some vb) (hv : Blkk w vb 110 2) (hxs : ∀ p, p < 2 → w.cell? ⟨vb, p, none⟩ = some (.int .i64 (xs.getD p 0))) :
    Calls Tryz.prog 107 #[v, .int .i64 i, .slice (some ⟨vb, 0, none⟩) 1 vc] w (InsD w B n i F xs v) := by
  rcases Nat.eq_or_lt_of_le hi with rfl | hi
  · exact insD_end w B _ vb vc F xs v hx h hB hn hv hxs
  · rcases h.parts with ⟨rfl, rfl⟩ | ⟨g, c, rfl, hg, hnc, hcm, hb, hF⟩
    · exact absurd hi (Nat.not_lt_zero _)
    · have hgv : vb ≠ g := fun e => hvb (by rw [e]; rfl)
      have hm3 : (n - i) * 2 + i * 2 = n * 2 := by rw [← Nat.add_mul]; congr 1; omega
      by_cases hr : n + 1 ≤ c
      · have hm1 : (n + 1) * 2 ≤ c * 2 := Nat.mul_le_mul_right 2 hr
        refine (insD_shift w g n c i vb vc F (fun p => xs.getD p 0) hb hr (by unfold maxLen at hcm; omega) hi hF hgv hv hxs).mono ?_
        rintro e w' ⟨rfl, rfl⟩
        have hb1 := Blkk.sets (vals (fun p => F (i * 2 + p)) ((n - i) * 2)) ((i + 1) * 2) w.drew hb
        refine ⟨_, _, rfl, own_of (Blkk.sets _ _ _ hb1) hg hr hcm (ins_cells hx (Nat.le_of_lt hi) (fun p hp => ?_) (fun p hp => ?_) (fun p hp => ?_)), ?_⟩
        · rw [World.cell?_setCells_out g _ _ _ _ (fun _ _ => Or.inl hp), World.cell?_setCells_out g _ _ _ _ (fun _ _ => Or.inl (by show p < _; omega))]
          exact hF p (by omega)
        · exact sets_in g (i * 2) 2 (fun p => xs.getD p 0) _ (fun j hj => hb1.any (by omega)) hp
        · rw [World.cell?_setCells_out g _ _ _ _ (fun _ _ => Or.inr (by rw [vals_length]; show _ ≤ (i + 1) * 2 + p; omega))]
          exact sets_in g ((i + 1) * 2) ((n - i) * 2) (fun p => F (i * 2 + p)) w.drew (fun j hj => hb.drew.any (by omega)) hp
        · exact ⟨grown_trans (grown_trans (grown_drew w _) (grown_sets g _ _ _)) (grown_sets g _ _ _), fun q hq => Or.inl hq⟩
      · refine (insD_grow w g n c i vb vc F (fun p => xs.getD p 0) hb hnc (by omega) (by omega) hi hF hv hxs).mono ?_
        rintro e w' ⟨G, ROW, ⟨hG1, hG2, hG3, hG4⟩, rfl, rfl⟩
        have hm1 : (n + 1) * 2 ≤ G * 2 := Nat.mul_le_mul_right 2 hG2
        have hN : Blkk (w.alloc (.cells ROW 110)).drew w.heap.size 110 (G * 2) := (Blkk.made w ROW _ _ hG3).drew
        have hb1 : Blkk (((w.alloc (.cells ROW 110)).drew.setCells w.heap.size (i * 2) (vals (fun p => xs.getD p 0) 2)).drew) w.heap.size 110 (G * 2) := (Blkk.sets (vals (fun p => xs.getD p 0) 2) (i * 2) _ hN).drew
        refine ⟨_, _, rfl, own_of (Blkk.sets _ _ _ hb1) hB hG2 hG1 (ins_cells hx (Nat.le_of_lt hi) (fun p hp => ?_) (fun p hp => ?_) (fun p hp => ?_)), ?_⟩
        · rw [World.cell?_setCells_out _ _ _ _ _ (fun _ _ => Or.inl (by show p < _; omega))]
          rw [drew_cell, World.cell?_setCells_out _ _ _ _ _ (fun _ _ => Or.inl hp), drew_cell, World.cell?_alloc_at (w := w) ROW _ w.heap.size p rfl]
          exact hG4 p hp
        · rw [World.cell?_setCells_out _ _ _ _ _ (fun _ _ => Or.inl (by show i * 2 + p < _; omega))]
          rw [drew_cell]
          exact sets_in w.heap.size (i * 2) 2 (fun p => xs.getD p 0) ((w.alloc (.cells ROW 110)).drew) (fun j hj => hN.any (by omega)) hp
        · exact sets_in w.heap.size ((i + 1) * 2) ((n - i) * 2) (fun p => F (i * 2 + p)) _ (fun j hj => hb1.any (by omega)) hp
        · have g1 : w.grownBy (w.alloc (.cells ROW 110)).drew (some g) := grown_trans (grown_alloc w _ _) (grown_drew _ _)
          have g2 := grown_over g1 (grown_sets w.heap.size (vals (fun p => xs.getD p 0) 2) (i * 2) _) (Nat.le_refl _)
          have g3 := grown_trans g2 (grown_drew _ _)
          exact ⟨grown_over g3 (grown_sets w.heap.size (vals (fun p => F (i * 2 + p)) ((n - i) * 2)) ((i + 1) * 2) _) (Nat.le_refl _), fun q hq => by cases hq; exact Or.inr (Nat.le_refl _)⟩
end Go.Proofs.YtdbcmckoiacemaaGreat

namespace Go.Proofs.YtdbcmckoiacemaaGreat
open Go.RowKit

set_option maxRecDepth 100000 in
set_option maxHeartbeats 1000000 in
theorem compareDones_is (x0 x1 y0 y1 : Int) (r : Int) (hr : orOf (cmpOf x1 y1) (cmpOf x0 y0) = r) (w : World) :
    Calls Tryz.prog 61 #[.agg #[.int .i64 x0, .int .i64 x1], .agg #[.int .i64 y0, .int .i64 y1]] w fun e w' => e = .returned (.int .i64 r) ∧ Below w.heap.size w w' := by
  obtain ⟨c0, C0⟩ : ∃ c, Hid (cmpOf x1 y1 = c) := ⟨_, rfl⟩
  obtain ⟨c1, C1⟩ : ∃ c, Hid (cmpOf x0 y0 = c) := ⟨_, rfl⟩
  have HR : Hid (orOf c0 c1 = r) := by unfold Hid; rw [← C0.out, ← C1.out]; exact hr
  clear hr
  go_enter Tryz.func61, Tryz.ntmps61
  go_wp2_with fail
  have h0 : Four w x0 x1 y0 y1 (((w.alloc (.cells #[.int .i64 x0, .int .i64 x1] 110)).alloc (.cells #[.int .i64 y0, .int .i64 y1] 110)).drew) := ⟨by simp, by simp, by simp, by simp, ((below_alloc _ _).alloc (by simp) _).drew⟩
  refine wp_region_held_drew (S := Four w x0 x1 y0 y1) (by kernel_rfl) h0 (fun hS => ?_)
  clear h0
  refine tkH 0 ?_ hS (fun wx hx => ?_) ?_; rotate_left
  · obtain ⟨hx0, hx1, hx2, hx3, _⟩ := hx; go_simp; try with_reducible rfl
  refine tkH 1 ?_ hS (fun wx hx => ?_) ?_; rotate_left
  · obtain ⟨hx0, hx1, hx2, hx3, _⟩ := hx; go_simp; try with_reducible rfl
  refine tkH 2 ?_ hS (fun wx hx => ?_) ?_; rotate_left
  · obtain ⟨hx0, hx1, hx2, hx3, _⟩ := hx; go_simp; try with_reducible rfl
  refine tkH 3 ?_ hS (fun wx hx => ?_) ?_; rotate_left
  · obtain ⟨hx0, hx1, hx2, hx3, _⟩ := hx; go_simp; try with_reducible rfl
  refine tkH 5 ?_ hS (fun wx hx => ?_) ?_; rotate_left
  · obtain ⟨hx0, hx1, hx2, hx3, _⟩ := hx; go_simp; try with_reducible rfl
  refine tkH 6 ?_ hS (fun wx hx => ?_) ?_; rotate_left
  · obtain ⟨hx0, hx1, hx2, hx3, _⟩ := hx; go_simp; try with_reducible rfl
  refine tkH 7 ?_ hS (fun wx hx => ?_) ?_; rotate_left
  · obtain ⟨hx0, hx1, hx2, hx3, _⟩ := hx; go_simp; try with_reducible rfl
  refine tkH 8 ?_ hS (fun wx hx => ?_) ?_; rotate_left
  · obtain ⟨hx0, hx1, hx2, hx3, _⟩ := hx; go_simp; try with_reducible rfl
  refine rdH 4 (fun K hK => ?_)
  go_simp
  go_wp2_with fail
  refine (compare_is _ _ c0 C0.out _).mono ?_
  rintro e w1 ⟨rfl, rfl⟩
  have hS' := hS
  go_wp2_with fail
  refine hK.out _ _ hS' (fun hS => ?_)
  clear hK K hS'
  refine rdH 9 (fun K hK => ?_)
  go_simp
  go_wp2_with fail
  refine (compare_is _ _ c1 C1.out _).mono ?_
  rintro e w1 ⟨rfl, rfl⟩
  have hS' := hS
  go_wp2_with fail
  refine hK.out _ _ hS' (fun hS => ?_)
  clear hK K hS'
  refine rdH 10 (fun K hK => ?_)
  go_simp
  refine hK.out _ _ (hS.later (below_alloc_drew _ _)) (fun hS => ?_)
  clear hK K
  refine rdH 11 (fun K hK => ?_)
  go_simp
  go_wp2_with fail
  refine (or_is c0 c1 r _ HR.out _ (two_cells _ _ (by simp) _ _ _).1 (two_cells _ _ (by simp) _ _ _).2).mono ?_
  rintro e w1 ⟨rfl, rfl⟩
  have hS' := hS
  go_wp2_with fail
  refine hK.out _ _ hS' (fun hS => ?_)
  clear hK K hS'
  refine tkH 12 ?_ hS (fun wx hx => ?_) ?_; rotate_left
  · obtain ⟨hx0, hx1, hx2, hx3, _⟩ := hx; go_simp; try with_reducible rfl
  refine wpAnyH_done (by kernel_rfl) ?_ _
  go_simp
  go_wp2
  go_ret
  exact ⟨rfl, hS.2.2.2.2⟩
theorem or_negD (a b x y : Int) : orOf (cmpOf a x) (cmpOf b y) < 0 ↔ a < x ∨ a = x ∧ b < y := by
  unfold orOf cmpOf
  constructor
  · intro h
    by_cases h1 : a < x
    · exact Or.inl h1
    · by_cases h2 : x < a
      · simp [h1, h2] at h
      · refine Or.inr ⟨by omega, ?_⟩
        simp [h1, h2] at h
        by_cases h3 : b < y
        · exact h3
        · simp [h3] at h
          split at h <;> omega
  · intro h
    rcases h with h | ⟨rfl, h⟩
    · simp [h]
    · simp [h]
theorem or_zeroD (a b x y : Int) : orOf (cmpOf a x) (cmpOf b y) = 0 ↔ a = x ∧ b = y := by
  unfold orOf cmpOf
  constructor
  · intro h
    by_cases h1 : a < x
    · simp [h1] at h
    · by_cases h2 : x < a
      · simp [h1, h2] at h
      · refine ⟨by omega, ?_⟩
        simp [h1, h2] at h
        by_cases h3 : b < y
        · simp [h3] at h
        · by_cases h4 : y < b
          · simp [h3, h4] at h
          · omega
  · rintro ⟨rfl, rfl⟩
    simp
theorem lt_cellD {w : World} {p : Addr} {v : Value} (h : w.cell? p = some v) : p.block < w.heap.size := World.block_lt_of_cell? w p h
def placeAtD (p : Nat → Prop) (n k : Nat) : Prop := k ≤ n ∧ (∀ j, j < k → p j) ∧ (k < n → ¬ p k)
def aheadD (F : Nat → Int) (a b : Int) (j : Nat) : Prop := F (j * 2 + 1) < b ∨ F (j * 2 + 1) = b ∧ F (j * 2) < a
def AD (w : World) (B n : Nat) (F : Nat → Int) (ao : Option Addr) (cp : Nat) (x0 x1 : Int) (X : World) : Prop :=
  (X.cell? ⟨w.heap.size, 0, none⟩ = some (.int .i64 x0) ∧ X.cell? ⟨w.heap.size, 1, none⟩ = some (.int .i64 x1)) ∧ Row X B 2 n F (.slice ao n cp) ∧ Below w.heap.size w X
theorem AD.drew {w X : World} {B n : Nat} {F : Nat → Int} {ao : Option Addr} {cp : Nat} {x0 x1 : Int} (h : AD w B n F ao cp x0 x1 X) : AD w B n F ao cp x0 x1 X.drew := ⟨h.1, h.2.1, h.2.2.drew⟩
theorem AD.later {w X X' : World} {B n : Nat} {F : Nat → Int} {ao : Option Addr} {cp : Nat} {x0 x1 : Int} (h : AD w B n F ao cp x0 x1 X) (_ : Row w B 2 n F (.slice ao n cp)) (hb : Below X.heap.size X X') : AD w B n F ao cp x0 x1 X' :=
  ⟨⟨(hb.cell (lt_cellD h.1.1)).trans h.1.1, (hb.cell (lt_cellD h.1.2)).trans h.1.2⟩, h.2.1.later hb, h.2.2.trans (hb.mono h.2.2.size)⟩
/-- What the search answers. -/
def FoundD (w : World) (n : Nat) (F : Nat → Int) (x0 x1 : Int) (e : Ending) (w' : World) : Prop := ∃ (k : Nat) (r : Bool), e = .returned (.tuple #[.int .i64 k, .bool r]) ∧ placeAtD (aheadD F x0 x1) n k ∧ (r = true ↔ k < n ∧ F (k * 2) = x0 ∧ F (k * 2 + 1) = x1) ∧ Below w.heap.size w w'
set_option maxRecDepth 100000 in
set_option maxHeartbeats 4000000 in
theorem searchD_any (n : Nat) (F : Nat → Int) (ao : Option Addr) (cp : Nat) (B : Nat) (x0 x1 : Int) (w : World) (h : Row w B 2 n F (.slice ao n cp)) (hn : n ≤ 1000) (hmono : ∀ i j, i ≤ j → j < n → aheadD F x0 x1 j → aheadD F x0 x1 i) :
    Calls Tryz.prog 150 #[.slice ao n cp, .agg #[.int .i64 x0, .int .i64 x1], .func (.func 61) #[] #[]] w (FoundD w n F x0 x1) := by
  have H : Hid (Row w B 2 n F (.slice ao n cp)) := h
  have HM : Hid (∀ i j, i ≤ j → j < n → aheadD F x0 x1 j → aheadD F x0 x1 i) := hmono
  clear h hmono
  go_enter Tryz.func150, Tryz.ntmps150
  go_wp2
  go_loopw [9, 10] (fun a b wr => ∃ i j : Nat, i ≤ j ∧ j ≤ n ∧ a = .int .i64 i ∧ b = .int .i64 j ∧ Hid (∀ q, q < i → aheadD F x0 x1 q) ∧ Hid (∀ q, j ≤ q → q < n → ¬ aheadD F x0 x1 q) ∧ Hid (AD w B n F ao cp x0 x1 wr)) (fun a b _ => (intOf b).toNat - (intOf a).toNat)
  case atStart =>
    refine ⟨0, n, Nat.zero_le _, Nat.le_refl _, rfl, rfl, fun q hq => absurd hq (Nat.not_lt_zero q), fun q h1 h2 => absurd h2 (Nat.not_lt.2 h1), ?_⟩
    exact ⟨⟨World.cell?_alloc_mark w _ _ _ 0, World.cell?_alloc_mark w _ _ _ 1⟩, H.out.alloc _, below_alloc _ _⟩
  case round =>
    obtain ⟨i, j, hij, hj, rfl, rfl, HA, HB, HS⟩ := hrel
    by_cases hlt : i < j
    case neg =>
      obtain rfl : i = j := by omega
      have HP : Hid (placeAtD (aheadD F x0 x1) n i) := ⟨hj, HA.out, fun q => HB.out i (Nat.le_refl _) q⟩
      clear HA HB hij hlt
      go_upto_region 8 with fail
      by_cases hin : i < n
      · obtain ⟨g, o, hao, _, hg, y0, y1⟩ := HS.out.2.1.at2 hin
        subst hao
        obtain ⟨n0, N0⟩ : ∃ x, F (i * 2) = x := ⟨_, rfl⟩
        rw [N0] at y0
        obtain ⟨n1, N1⟩ : ∃ x, F (i * 2 + 1) = x := ⟨_, rfl⟩
        rw [N1] at y1
        have HN : Hid (F (i * 2) = n0 ∧ F (i * 2 + 1) = n1) := ⟨N0, N1⟩
        clear N0 N1
        have dn : decide (i < n) = true := decide_eq_true hin
        refine wp_region_held_drew (S := fun X => (X.cell? ⟨w.heap.size, 0, none⟩ = some (.int .i64 x0) ∧ X.cell? ⟨w.heap.size, 1, none⟩ = some (.int .i64 x1)) ∧ (X.cell? ⟨g, o + i * 2, none⟩ = some (.int .i64 n0) ∧ X.cell? ⟨g, o + i * 2 + 1, none⟩ = some (.int .i64 n1)) ∧ AD w B n F (some ⟨g, o, none⟩) cp x0 x1 X) (by kernel_rfl) ⟨HS.out.1, ⟨y0, y1⟩, HS.out.drew⟩ (fun hS => ?_)
        refine tkH 0 ?_ hS (fun wx hx => ?_) ?_; rotate_left
        · obtain ⟨⟨hx0, hx1⟩, ⟨hx4, hx5⟩, _⟩ := hx; go_simp; try with_reducible rfl
        refine tkH 1 ?_ hS (fun wx hx => ?_) ?_; rotate_left
        · obtain ⟨⟨hx0, hx1⟩, ⟨hx4, hx5⟩, _⟩ := hx; go_simp; try with_reducible rfl
        refine tkH 2 ?_ hS (fun wx hx => ?_) ?_; rotate_left
        · obtain ⟨⟨hx0, hx1⟩, ⟨hx4, hx5⟩, _⟩ := hx; go_simp; try with_reducible rfl
        refine tkH 3 ?_ hS (fun wx hx => ?_) ?_; rotate_left
        · obtain ⟨⟨hx0, hx1⟩, ⟨hx4, hx5⟩, _⟩ := hx; go_simp; try with_reducible rfl
        refine tkH 4 ?_ hS (fun wx hx => ?_) ?_; rotate_left
        · obtain ⟨⟨hx0, hx1⟩, ⟨hx4, hx5⟩, _⟩ := hx; go_simp; try with_reducible rfl
        refine tkH 5 ?_ hS (fun wx hx => ?_) ?_; rotate_left
        · obtain ⟨⟨hx0, hx1⟩, ⟨hx4, hx5⟩, _⟩ := hx; go_simp; try with_reducible rfl
        refine tkH 6 ?_ hS (fun wx hx => ?_) ?_; rotate_left
        · obtain ⟨⟨hx0, hx1⟩, ⟨hx4, hx5⟩, _⟩ := hx; go_simp; try with_reducible rfl
        refine tkH 7 ?_ hS (fun wx hx => ?_) ?_; rotate_left
        · obtain ⟨⟨hx0, hx1⟩, ⟨hx4, hx5⟩, _⟩ := hx; go_simp; try with_reducible rfl
        refine tkH 8 ?_ hS (fun wx hx => ?_) ?_; rotate_left
        · obtain ⟨⟨hx0, hx1⟩, ⟨hx4, hx5⟩, _⟩ := hx; go_simp; try with_reducible rfl
        refine tkH 9 ?_ hS (fun wx hx => ?_) ?_; rotate_left
        · obtain ⟨⟨hx0, hx1⟩, ⟨hx4, hx5⟩, _⟩ := hx; go_simp; try with_reducible rfl
        refine tkH 10 ?_ hS (fun wx hx => ?_) ?_; rotate_left
        · obtain ⟨⟨hx0, hx1⟩, ⟨hx4, hx5⟩, _⟩ := hx; go_simp; try with_reducible rfl
        refine rdH 11 (fun K hK => ?_)
        go_simp
        go_wp2_with fail
        obtain ⟨r, hr⟩ : ∃ r, orOf (cmpOf n1 x1) (cmpOf n0 x0) = r := ⟨_, rfl⟩
        refine (compareDones_is n0 n1 x0 x1 r hr _).mono ?_
        rintro e w1 ⟨rfl, q1⟩
        have S1 : AD w B n F (some ⟨g, o, none⟩) cp x0 x1 w1 := hS.2.2.later H.out q1
        obtain ⟨_, ⟨y0, y1⟩, _⟩ := hS
        have y0' := (q1.cell (p := ⟨g, o + i * 2, none⟩) (lt_cellD y0)).trans y0
        have y1' := (q1.cell (p := ⟨g, o + i * 2 + 1, none⟩) (lt_cellD y1)).trans y1
        go_wp2_with fail
        refine hK.out _ _ ⟨S1.1, ⟨y0', y1'⟩, S1⟩ (fun hS => ?_)
        clear hK K y0 y1 y0' y1' q1 S1 HS
        by_cases ha : n1 = x1 ∧ n0 = x0
        · obtain rfl : r = 0 := by rw [← hr]; exact (or_zeroD n1 n0 x1 x0).2 ha
          have HR : Hid (F (i * 2) = x0 ∧ F (i * 2 + 1) = x1) := ⟨HN.out.1.trans ha.2, HN.out.2.trans ha.1⟩
          clear ha hr HN
          refine tkH 12 ?_ hS (fun wx hx => ?_) ?_; rotate_left
          · obtain ⟨⟨hx0, hx1⟩, ⟨hx4, hx5⟩, _⟩ := hx; go_simp; try with_reducible rfl
          refine tkH 13 ?_ hS (fun wx hx => ?_) ?_; rotate_left
          · obtain ⟨⟨hx0, hx1⟩, ⟨hx4, hx5⟩, _⟩ := hx; go_simp; try with_reducible rfl
          refine tkH 14 ?_ hS (fun wx hx => ?_) ?_; rotate_left
          · obtain ⟨⟨hx0, hx1⟩, ⟨hx4, hx5⟩, _⟩ := hx; go_simp; try with_reducible rfl
          refine tkH 15 ?_ hS (fun wx hx => ?_) ?_; rotate_left
          · obtain ⟨⟨hx0, hx1⟩, ⟨hx4, hx5⟩, _⟩ := hx; go_simp; try with_reducible rfl
          refine wpAnyH_done (by kernel_rfl) ?_ _
          go_simp
          go_wp2
          go_ret2
          exact ⟨i, true, rfl, HP.out, ⟨fun _ => ⟨hin, HR.out⟩, fun _ => rfl⟩, hS.2.2.2.2⟩
        · have dr : (r == 0) = false := beq_eq_false_iff_ne.2 (by rw [← hr]; exact fun q => ha ((or_zeroD n1 n0 x1 x0).1 q))
          have HR : Hid (¬ (F (i * 2) = x0 ∧ F (i * 2 + 1) = x1)) := fun q => ha ⟨HN.out.2.symm.trans q.2, HN.out.1.symm.trans q.1⟩
          clear ha hr HN
          refine tkH 12 ?_ hS (fun wx hx => ?_) ?_; rotate_left
          · obtain ⟨⟨hx0, hx1⟩, ⟨hx4, hx5⟩, _⟩ := hx; go_simp; try with_reducible rfl
          refine tkH 13 ?_ hS (fun wx hx => ?_) ?_; rotate_left
          · obtain ⟨⟨hx0, hx1⟩, ⟨hx4, hx5⟩, _⟩ := hx; go_simp; try with_reducible rfl
          refine tkH 14 ?_ hS (fun wx hx => ?_) ?_; rotate_left
          · obtain ⟨⟨hx0, hx1⟩, ⟨hx4, hx5⟩, _⟩ := hx; go_simp; try with_reducible rfl
          refine tkH 15 ?_ hS (fun wx hx => ?_) ?_; rotate_left
          · obtain ⟨⟨hx0, hx1⟩, ⟨hx4, hx5⟩, _⟩ := hx; go_simp; try with_reducible rfl
          refine wpAnyH_done (by kernel_rfl) ?_ _
          go_simp
          go_wp2
          go_ret2
          exact ⟨i, false, rfl, HP.out, ⟨fun q => (Bool.false_ne_true q).elim, fun q => (HR.out q.2).elim⟩, hS.2.2.2.2⟩
      · have dn : decide (i < n) = false := decide_eq_false hin
        refine wp_region_held_drew (S := AD w B n F ao cp x0 x1) (by kernel_rfl) HS.out.drew (fun hS => ?_)
        refine tkH 0 ?_ hS (fun wx hx => ?_) ?_; rotate_left
        · go_simp; try with_reducible rfl
        refine tkH 1 ?_ hS (fun wx hx => ?_) ?_; rotate_left
        · go_simp; try with_reducible rfl
        refine tkH 2 ?_ hS (fun wx hx => ?_) ?_; rotate_left
        · go_simp; try with_reducible rfl
        refine tkH 3 ?_ hS (fun wx hx => ?_) ?_; rotate_left
        · go_simp; try with_reducible rfl
        refine tkH 4 ?_ hS (fun wx hx => ?_) ?_; rotate_left
        · go_simp; try with_reducible rfl
        refine noH 5 hS ?_
        refine noH 6 hS ?_
        refine noH 7 hS ?_
        refine noH 8 hS ?_
        refine noH 9 hS ?_
        refine noH 10 hS ?_
        refine noH 11 hS ?_
        refine noH 12 hS ?_
        refine tkH 13 ?_ hS (fun wx hx => ?_) ?_; rotate_left
        · go_simp; try with_reducible rfl
        refine tkH 14 ?_ hS (fun wx hx => ?_) ?_; rotate_left
        · go_simp; try with_reducible rfl
        refine tkH 15 ?_ hS (fun wx hx => ?_) ?_; rotate_left
        · go_simp; try with_reducible rfl
        refine wpAnyH_done (by kernel_rfl) ?_ _
        go_simp
        go_wp2
        go_ret2
        exact ⟨i, false, rfl, HP.out, ⟨fun q => (Bool.false_ne_true q).elim, fun q => (hin q.1).elim⟩, hS.2.2⟩
    go_upto_region 5 with fail
    obtain ⟨m, hm⟩ : ∃ m : Nat, ((i : Int) + j) / 2 = m := ⟨(i + j) / 2, by omega⟩
    have hm1 : i ≤ m ∧ m < j := by omega
    rw [hm]
    clear hm
    obtain ⟨hm1, hm2⟩ := hm1
    have hmn : m < n := by omega
    obtain ⟨g, o, hao, _, hg, y0, y1⟩ := HS.out.2.1.at2 hmn
    subst hao
    obtain ⟨n0, N0⟩ : ∃ x, F (m * 2) = x := ⟨_, rfl⟩
    rw [N0] at y0
    obtain ⟨n1, N1⟩ : ∃ x, F (m * 2 + 1) = x := ⟨_, rfl⟩
    rw [N1] at y1
    have HC : Hid (aheadD F x0 x1 m ↔ n1 < x1 ∨ n1 = x1 ∧ n0 < x0) := by unfold aheadD; rw [N0, N1]; exact Iff.rfl
    clear N0 N1
    refine wp_region_held_drew (S := fun X => (X.cell? ⟨w.heap.size, 0, none⟩ = some (.int .i64 x0) ∧ X.cell? ⟨w.heap.size, 1, none⟩ = some (.int .i64 x1)) ∧ (X.cell? ⟨g, o + m * 2, none⟩ = some (.int .i64 n0) ∧ X.cell? ⟨g, o + m * 2 + 1, none⟩ = some (.int .i64 n1)) ∧ AD w B n F (some ⟨g, o, none⟩) cp x0 x1 X) (by kernel_rfl) ⟨HS.out.1, ⟨y0, y1⟩, HS.out.drew⟩ (fun hS => ?_)
    refine tkH 0 ?_ hS (fun wx hx => ?_) ?_; rotate_left
    · obtain ⟨⟨hx0, hx1⟩, ⟨hx4, hx5⟩, _⟩ := hx; go_simp; try with_reducible rfl
    refine tkH 1 ?_ hS (fun wx hx => ?_) ?_; rotate_left
    · obtain ⟨⟨hx0, hx1⟩, ⟨hx4, hx5⟩, _⟩ := hx; go_simp; try with_reducible rfl
    refine tkH 2 ?_ hS (fun wx hx => ?_) ?_; rotate_left
    · obtain ⟨⟨hx0, hx1⟩, ⟨hx4, hx5⟩, _⟩ := hx; go_simp; try with_reducible rfl
    refine tkH 3 ?_ hS (fun wx hx => ?_) ?_; rotate_left
    · obtain ⟨⟨hx0, hx1⟩, ⟨hx4, hx5⟩, _⟩ := hx; go_simp; try with_reducible rfl
    refine tkH 4 ?_ hS (fun wx hx => ?_) ?_; rotate_left
    · obtain ⟨⟨hx0, hx1⟩, ⟨hx4, hx5⟩, _⟩ := hx; go_simp; try with_reducible rfl
    refine tkH 5 ?_ hS (fun wx hx => ?_) ?_; rotate_left
    · obtain ⟨⟨hx0, hx1⟩, ⟨hx4, hx5⟩, _⟩ := hx; go_simp; try with_reducible rfl
    refine rdH 6 (fun K hK => ?_)
    go_simp
    go_wp2_with fail
    obtain ⟨r, hr⟩ : ∃ r, orOf (cmpOf n1 x1) (cmpOf n0 x0) = r := ⟨_, rfl⟩
    refine (compareDones_is n0 n1 x0 x1 r hr _).mono ?_
    rintro e w1 ⟨rfl, q1⟩
    have S1 : AD w B n F (some ⟨g, o, none⟩) cp x0 x1 w1 := hS.2.2.later H.out q1
    obtain ⟨_, ⟨y0, y1⟩, _⟩ := hS
    have y0' := (q1.cell (p := ⟨g, o + m * 2, none⟩) (lt_cellD y0)).trans y0
    have y1' := (q1.cell (p := ⟨g, o + m * 2 + 1, none⟩) (lt_cellD y1)).trans y1
    go_wp2_with fail
    refine hK.out _ _ ⟨S1.1, ⟨y0', y1'⟩, S1⟩ (fun hS => ?_)
    clear hK K y0 y1 y0' y1' q1 S1 HS
    by_cases ha : n1 < x1 ∨ n1 = x1 ∧ n0 < x0
    · have dr : decide (r < 0) = true := decide_eq_true (by rw [← hr]; exact (or_negD n1 n0 x1 x0).2 ha)
      have HA1 : Hid (∀ q, q < m + 1 → aheadD F x0 x1 q) := fun q hq => HM.out q m (by omega) hmn (HC.out.2 ha)
      clear ha hr HC HA
      refine tkH 7 ?_ hS (fun wx hx => ?_) ?_; rotate_left
      · obtain ⟨⟨hx0, hx1⟩, ⟨hx4, hx5⟩, _⟩ := hx; go_simp; try with_reducible rfl
      refine wpAnyH_done (by kernel_rfl) ?_ _
      go_simp
      go_wp2
      go_roundw
      case rel => exact ⟨m + 1, j, by omega, hj, by go_num, rfl, HA1, HB, hS.2.2⟩
      case measure => simp [intOf]; omega
    · have dr : decide (r < 0) = false := decide_eq_false (by rw [← hr]; exact fun q => ha ((or_negD n1 n0 x1 x0).1 q))
      have HB1 : Hid (∀ q, m ≤ q → q < n → ¬ aheadD F x0 x1 q) := fun q h1 h2 h3 => ha (HC.out.1 (HM.out m q h1 h2 h3))
      clear ha hr HC HB
      refine tkH 7 ?_ hS (fun wx hx => ?_) ?_; rotate_left
      · obtain ⟨⟨hx0, hx1⟩, ⟨hx4, hx5⟩, _⟩ := hx; go_simp; try with_reducible rfl
      refine wpAnyH_done (by kernel_rfl) ?_ _
      go_simp
      go_wp2
      go_roundw
      case rel => exact ⟨i, m, hm1, by omega, rfl, rfl, HA, HB1, hS.2.2⟩
      case measure => simp [intOf]; omega
end Go.Proofs.YtdbcmckoiacemaaGreat

namespace Go.Proofs.YtdbcmckoiacemaaGreat
open Go.RowKit Go.Lib

theorem step_appInM {ops : Array Oper} {o : Oper} {a : Act} {w : World} {K : Act → World → Prop} {Q : Exit → Act → World → Prop} {E : Prop}
    (hg : o.guard = none) (d x : Operand) (dT sT : TypeId) (hop : o.op = Op.call { callee := Callee.builtin Builtin.append, args := #[d, x], argTypes := #[dT, sT] })
    (v u : Value) (hd : a.eval d = v) (hx : a.eval x = u) {v' : Value} {w' : World} (hr : (Builtin.append_ #[dT, sT] o.type #[v, u]).run Tryz.prog w = .ok v' w') (hK : K (a.put o.dst v') w') :
    if Region.wanted o (yielded ops a.tmps) = true then Oper.wp Tryz.prog o a w K Q else E := by
  have hw : Region.wanted o (yielded ops a.tmps) = true := by simp [Region.wanted, hg]
  rw [if_pos hw]
  unfold Oper.wp
  simp [execOp, hop, resolve, invoke, builtin, hd, hx, hr, Result.andThen]
  exact hK
end Go.Proofs.YtdbcmckoiacemaaGreat

namespace Go.Proofs.YtdbcmckoiacemaaGreat
open Go.RowKit

theorem isTimeT_is (v : Int) (r : Bool) (hr : decide (1 ≤ v ∧ v ≤ 100000) = r) (w : World) :
    Calls Tryz.prog 93 #[.int .i64 v] w fun e w' => e = .returned (.bool r) ∧ w' = w := by
  by_cases h1 : 1 ≤ v
  · by_cases h2 : v ≤ 100000
    · have d : decide (v ≤ 100000) = true := decide_eq_true h2
      rw [decide_eq_true (show 1 ≤ v ∧ v ≤ 100000 from ⟨h1, h2⟩)] at hr
      subst hr
      go_enter Tryz.func93, Tryz.ntmps93
      go_wp2
      go_ret
      exact ⟨rfl, rfl⟩
    · have d : decide (v ≤ 100000) = false := decide_eq_false h2
      rw [decide_eq_false (show ¬ (1 ≤ v ∧ v ≤ 100000) from fun h => h2 h.2)] at hr
      subst hr
      go_enter Tryz.func93, Tryz.ntmps93
      go_wp2
      go_ret
      exact ⟨rfl, rfl⟩
  · have d : decide (1 ≤ v) = false := decide_eq_false h1
    rw [decide_eq_false (show ¬ (1 ≤ v ∧ v ≤ 100000) from fun h => h1 h.1)] at hr
    subst hr
    go_enter Tryz.func93, Tryz.ntmps93
    go_wp2
    go_ret
    exact ⟨rfl, rfl⟩
theorem isValueT_is (v : Int) (r : Bool) (hr : decide (0 ≤ v ∧ v ≤ 9999) = r) (w : World) :
    Calls Tryz.prog 165 #[.int .i64 v] w fun e w' => e = .returned (.bool r) ∧ w' = w := by
  by_cases h1 : 0 ≤ v
  · by_cases h2 : v ≤ 9999
    · have d : decide (v ≤ 9999) = true := decide_eq_true h2
      rw [decide_eq_true (show 0 ≤ v ∧ v ≤ 9999 from ⟨h1, h2⟩)] at hr
      subst hr
      go_enter Tryz.func165, Tryz.ntmps165
      go_wp2
      go_ret
      exact ⟨rfl, rfl⟩
    · have d : decide (v ≤ 9999) = false := decide_eq_false h2
      rw [decide_eq_false (show ¬ (0 ≤ v ∧ v ≤ 9999) from fun h => h2 h.2)] at hr
      subst hr
      go_enter Tryz.func165, Tryz.ntmps165
      go_wp2
      go_ret
      exact ⟨rfl, rfl⟩
  · have d : decide (0 ≤ v) = false := decide_eq_false h1
    rw [decide_eq_false (show ¬ (0 ≤ v ∧ v ≤ 9999) from fun h => h1 h.1)] at hr
    subst hr
    go_enter Tryz.func165, Tryz.ntmps165
    go_wp2
    go_ret
    exact ⟨rfl, rfl⟩
theorem isUntilT_is (v : Int) (r : Bool) (hr : decide (0 ≤ v ∧ v ≤ 100000) = r) (w : World) :
    Calls Tryz.prog 92 #[.int .i64 v] w fun e w' => e = .returned (.bool r) ∧ w' = w := by
  by_cases h1 : 0 ≤ v
  · by_cases h2 : v ≤ 100000
    · have d : decide (v ≤ 100000) = true := decide_eq_true h2
      rw [decide_eq_true (show 0 ≤ v ∧ v ≤ 100000 from ⟨h1, h2⟩)] at hr
      subst hr
      go_enter Tryz.func92, Tryz.ntmps92
      go_wp2
      go_ret
      exact ⟨rfl, rfl⟩
    · have d : decide (v ≤ 100000) = false := decide_eq_false h2
      rw [decide_eq_false (show ¬ (0 ≤ v ∧ v ≤ 100000) from fun h => h2 h.2)] at hr
      subst hr
      go_enter Tryz.func92, Tryz.ntmps92
      go_wp2
      go_ret
      exact ⟨rfl, rfl⟩
  · have d : decide (0 ≤ v) = false := decide_eq_false h1
    rw [decide_eq_false (show ¬ (0 ≤ v ∧ v ≤ 100000) from fun h => h1 h.1)] at hr
    subst hr
    go_enter Tryz.func92, Tryz.ntmps92
    go_wp2
    go_ret
    exact ⟨rfl, rfl⟩
theorem keyAmong1_is (k kd v key : Int) (bc : Nat) (r : Bool) (hr : (k == key) = r) (w : World) (hc : w.cell? ⟨bc, 0, none⟩ = some (.int .i64 key)) :
    Calls Tryz.prog 192 #[.agg #[.int .i64 k, .int .i64 kd, .int .i64 v], .pointer (some ⟨bc, 0, none⟩)] w fun e w' => e = .returned (.bool r) ∧ Below w.heap.size w w' := by
  have hlt := World.block_lt_of_cell? w _ hc
  go_enter Tryz.func192, Tryz.ntmps192
  go_wp2
  go_ret
  exact ⟨by first | rfl | (rw [← hr]; rfl), below_alloc _ _⟩
set_option maxRecDepth 100000 in
set_option maxHeartbeats 4000000 in
theorem indexItem_is (bc : Nat) (key : Int) (B n : Nat) (F : Nat → Int) (v : Value) (r : Bool) (hr : hasI F key n = r) (w : World) (h : Row w B 3 n F v) (hn : n ≤ 9223372036854775807) (hw : w.cell? ⟨bc, 0, none⟩ = some (.int .i64 key)) :
    Calls Tryz.prog 196 #[v, .func (.func 192) #[] #[.pointer (some ⟨bc, 0, none⟩)]] w fun e w' => ∃ z : Int, e = .returned (.int .i64 z) ∧ decide (0 ≤ z) = r ∧ Below w.heap.size w w' := by
  obtain ⟨ao, cp, rfl⟩ := h.form
  have hbc := World.block_lt_of_cell? w _ hw
  have H : Hid (Row w B 3 n F (.slice ao n cp)) := h
  have HR : Hid (hasI F key n = r) := hr
  have HW : Hid (w.cell? ⟨bc, 0, none⟩ = some (.int .i64 key)) := hw
  clear h hr hw
  go_enter Tryz.func196, Tryz.ntmps196
  go_wp2
  go_loopw [8] (fun i wr => ∃ k : Nat, k ≤ n ∧ i = .int .i64 k ∧ Hid (hasI F key k = false) ∧ Hid (Below w.heap.size w wr)) (fun i _ => n - (intOf i).toNat)
  case atStart => exact ⟨0, Nat.zero_le _, rfl, rfl, Below.refl _ _⟩
  case round =>
    obtain ⟨k, hk, rfl, HS, HB⟩ := hrel
    by_cases hlt : k < n
    case neg =>
      obtain rfl : n = k := by omega
      go_wp2
      go_ret
      exact ⟨-1, rfl, HS.out.symm.trans HR.out, HB.out⟩
    obtain ⟨g, o, rfl, _, hg, x0, x1, x2⟩ := (H.out.later HB.out).at3 hlt
    obtain ⟨n0, N0⟩ : ∃ x, F (k * 3) = x := ⟨_, rfl⟩
    rw [N0] at x0
    obtain ⟨n1, N1⟩ : ∃ x, F (k * 3 + 1) = x := ⟨_, rfl⟩
    rw [N1] at x1
    obtain ⟨n2, N2⟩ : ∃ x, F (k * 3 + 2) = x := ⟨_, rfl⟩
    rw [N2] at x2
    have HC : Hid (wr.cell? ⟨bc, 0, none⟩ = some (.int .i64 key)) := (HB.out.cell (p := ⟨bc, 0, none⟩) hbc).trans HW.out
    by_cases hz : n0 = key
    · have hx : hasI F key n = true := hasI_true.2 ⟨k, hlt, N0.trans hz⟩
      have E : Hid (true = r) := hx.symm.trans HR.out
      have D : Hid ((n0 == key) = true) := by unfold Hid; rw [hz]; exact beq_self_eq_true _
      clear hx N0 N1 N2 hz
      go_wp2_with fail
      refine (keyAmong1_is n0 n1 n2 key bc true D.out _ HC.out).mono ?_
      rintro e w1 ⟨rfl, q1⟩
      have HB1 : Hid (Below w.heap.size w w1) := HB.out.trans (q1.mono HB.out.size)
      clear q1
      go_wp2
      go_ret
      exact ⟨k, rfl, by rw [← E.out]; exact decide_eq_true (by omega), HB1.out⟩
    · have E : Hid (hasI F key (k + 1) = false) := by
        unfold Hid
        rw [hasI, HS.out, N0, beq_eq_false_iff_ne.2 hz]; rfl
      have D : Hid ((n0 == key) = false) := beq_eq_false_iff_ne.2 hz
      clear N0 N1 N2 hz HS
      go_wp2_with fail
      refine (keyAmong1_is n0 n1 n2 key bc false D.out _ HC.out).mono ?_
      rintro e w1 ⟨rfl, q1⟩
      have HB1 : Hid (Below w.heap.size w w1) := HB.out.trans (q1.mono HB.out.size)
      clear q1
      go_wp2
      go_roundw
      case rel => exact ⟨k + 1, by omega, by go_num, E, HB1⟩
      case measure => simp [intOf]; omega
set_option maxHeartbeats 1000000 in
theorem containsItem_is (bc : Nat) (key : Int) (B n : Nat) (F : Nat → Int) (v : Value) (r : Bool) (hr : hasI F key n = r) (w : World) (h : Row w B 3 n F v) (hn : n ≤ 9223372036854775807) (hw : w.cell? ⟨bc, 0, none⟩ = some (.int .i64 key)) :
    Calls Tryz.prog 191 #[v, .func (.func 192) #[] #[.pointer (some ⟨bc, 0, none⟩)]] w fun e w' => e = .returned (.bool r) ∧ Below w.heap.size w w' := by
  obtain ⟨ao, cp, rfl⟩ := h.form
  have H : Hid (Row w B 3 n F (.slice ao n cp)) := h
  have HR : Hid (hasI F key n = r) := hr
  have HW : Hid (w.cell? ⟨bc, 0, none⟩ = some (.int .i64 key)) := hw
  clear h hr hw
  go_enter Tryz.func191, Tryz.ntmps191
  go_wp2_with fail
  refine (indexItem_is bc key B n F _ r HR.out _ H.out hn HW.out).mono ?_
  rintro e w1 ⟨z, rfl, hz, q1⟩
  have HZ : Hid (decide (0 ≤ z) = r) := hz
  have Q : Hid (Below w.heap.size w w1) := q1
  clear q1 hz
  go_wp2
  go_ret
  exact ⟨by rw [← HZ.out]; first | rfl | (congr 3), Q.out⟩
set_option maxHeartbeats 1000000 in
theorem keyAmong_is (v : Value) (B n : Nat) (F : Nat → Int) (key : Int) (r : Bool) (hr : hasI F key n = r) (w : World) (h : Row w B 3 n F v) (hn : n ≤ 9223372036854775807) :
    Calls Tryz.prog 177 #[v, .int .i64 key] w fun e w' => e = .returned (.bool r) ∧ Below w.heap.size w w' := by
  obtain ⟨ao, cp, rfl⟩ := h.form
  have H : Hid (Row w B 3 n F (.slice ao n cp)) := h
  have HR : Hid (hasI F key n = r) := hr
  clear h hr
  go_enter Tryz.func177, Tryz.ntmps177
  go_wp2_with fail
  refine (containsItem_is w.heap.size key B n F _ r HR.out _ (H.out.alloc _) hn (World.cell?_alloc_mark w _ _ _ 0)).mono ?_
  rintro e w1 ⟨rfl, q1⟩
  have Q : Hid (Below w.heap.size w w1) := (below_alloc _ _).trans (q1.mono (by simp))
  clear q1
  go_wp2
  go_ret
  exact ⟨rfl, Q.out⟩
/-- What the program tells of kind and value. -/
def valF (kd v : Int) : Int := if ¬ (1 ≤ kd ∧ kd ≤ 3) ∨ ¬ (0 ≤ v ∧ v ≤ 9999) then 3 else if v ≠ 0 ∧ kd ≠ 1 then 1 else 0
theorem itemF_val {k kd v : Int} (h : faultOf k = 0) : itemF k kd v = valF kd v := by unfold itemF valF; rw [if_neg (fun q => q h)]
set_option maxHeartbeats 1000000 in
theorem itemValue_is (k kd v : Int) (w : World) :
    Calls Tryz.prog 176 #[.agg #[.int .i64 k, .int .i64 kd, .int .i64 v]] w fun e w' => e = .returned (.int .i64 (valF kd v)) ∧ Below w.heap.size w w' := by
  by_cases h1 : 1 ≤ kd ∧ kd ≤ 3
  case neg =>
    have E : Hid (valF kd v = 3) := by unfold Hid valF; rw [if_pos (Or.inl h1)]
    have d1 : (kd == 1) = false := beq_eq_false_iff_ne.2 (by omega)
    have d2 : (kd == 2) = false := beq_eq_false_iff_ne.2 (by omega)
    have d3 : (kd == 3) = false := beq_eq_false_iff_ne.2 (by omega)
    clear h1
    go_enter Tryz.func176, Tryz.ntmps176
    go_wp2
    go_ret
    exact ⟨by rw [E.out]; rfl, below_alloc _ _⟩
  have hk : kd = 1 ∨ kd = 2 ∨ kd = 3 := by omega
  by_cases h2 : 0 ≤ v ∧ v ≤ 9999
  case neg =>
    have E : Hid (valF kd v = 3) := by unfold Hid valF; rw [if_pos (Or.inr h2)]
    have D : Hid (decide (0 ≤ v ∧ v ≤ 9999) = false) := decide_eq_false h2
    clear h1 h2
    rcases hk with rfl | rfl | rfl
    · go_enter Tryz.func176, Tryz.ntmps176
      go_wp2_with fail
      refine (isValueT_is _ _ D.out _).mono ?_
      rintro e w1 ⟨rfl, rfl⟩
      go_wp2
      go_ret
      exact ⟨by rw [E.out]; rfl, below_alloc _ _⟩
    · go_enter Tryz.func176, Tryz.ntmps176
      go_wp2_with fail
      refine (isValueT_is _ _ D.out _).mono ?_
      rintro e w1 ⟨rfl, rfl⟩
      go_wp2_with fail
      refine (isValueT_is _ _ D.out _).mono ?_
      rintro e w1 ⟨rfl, rfl⟩
      go_wp2
      go_ret
      exact ⟨by rw [E.out]; rfl, below_alloc _ _⟩
    · go_enter Tryz.func176, Tryz.ntmps176
      go_wp2_with fail
      refine (isValueT_is _ _ D.out _).mono ?_
      rintro e w1 ⟨rfl, rfl⟩
      go_wp2_with fail
      refine (isValueT_is _ _ D.out _).mono ?_
      rintro e w1 ⟨rfl, rfl⟩
      go_wp2
      go_ret
      exact ⟨by rw [E.out]; rfl, below_alloc _ _⟩
  have D : Hid (decide (0 ≤ v ∧ v ≤ 9999) = true) := decide_eq_true h2
  have HN : Hid (¬ (¬ (1 ≤ kd ∧ kd ≤ 3) ∨ ¬ (0 ≤ v ∧ v ≤ 9999))) := by
    rintro (q | q)
    · exact q h1
    · exact q h2
  clear h1 h2
  rcases hk with rfl | hk
  · have E : Hid (valF 1 v = 0) := by unfold Hid valF; rw [if_neg HN.out, if_neg (fun q => q.2 rfl)]
    go_enter Tryz.func176, Tryz.ntmps176
    go_wp2_with fail
    refine (isValueT_is _ _ D.out _).mono ?_
    rintro e w1 ⟨rfl, rfl⟩
    go_wp2
    go_ret
    exact ⟨by rw [E.out]; rfl, below_alloc _ _⟩
  by_cases h3 : v = 0
  · have E : Hid (valF kd v = 0) := by unfold Hid valF; rw [if_neg HN.out, if_neg (fun q => q.1 h3)]
    subst h3
    rcases hk with rfl | rfl
    · go_enter Tryz.func176, Tryz.ntmps176
      go_wp2_with fail
      refine (isValueT_is _ _ D.out _).mono ?_
      rintro e w1 ⟨rfl, rfl⟩
      go_wp2_with fail
      refine (isValueT_is _ _ D.out _).mono ?_
      rintro e w1 ⟨rfl, rfl⟩
      go_wp2
      go_ret
      exact ⟨by rw [E.out]; rfl, below_alloc _ _⟩
    · go_enter Tryz.func176, Tryz.ntmps176
      go_wp2_with fail
      refine (isValueT_is _ _ D.out _).mono ?_
      rintro e w1 ⟨rfl, rfl⟩
      go_wp2_with fail
      refine (isValueT_is _ _ D.out _).mono ?_
      rintro e w1 ⟨rfl, rfl⟩
      go_wp2
      go_ret
      exact ⟨by rw [E.out]; rfl, below_alloc _ _⟩
  · have E : Hid (valF kd v = 1) := by unfold Hid valF; rw [if_neg HN.out, if_pos ⟨h3, by omega⟩]
    have d : (v != 0) = true := bne_iff_ne.2 h3
    clear h3
    rcases hk with rfl | rfl
    · go_enter Tryz.func176, Tryz.ntmps176
      go_wp2_with fail
      refine (isValueT_is _ _ D.out _).mono ?_
      rintro e w1 ⟨rfl, rfl⟩
      go_wp2
      go_ret
      exact ⟨by rw [E.out]; rfl, below_alloc _ _⟩
    · go_enter Tryz.func176, Tryz.ntmps176
      go_wp2_with fail
      refine (isValueT_is _ _ D.out _).mono ?_
      rintro e w1 ⟨rfl, rfl⟩
      go_wp2
      go_ret
      exact ⟨by rw [E.out]; rfl, below_alloc _ _⟩
end Go.Proofs.YtdbcmckoiacemaaGreat

namespace Go.Proofs.YtdbcmckoiacemaaGreat
open Go.RowKit

abbrev Prs := List (Int × Int)
/-- The numbers of a list of pairs, one behind the other. -/
def rowL (L : Prs) (p : Nat) : Int := if p % 2 = 0 then (L.getD (p / 2) (0, 0)).1 else (L.getD (p / 2) (0, 0)).2
theorem rowL_key (L : Prs) (k : Nat) : rowL L (k * 2) = (L.getD k (0, 0)).1 := by
  unfold rowL
  rw [if_pos (by omega), show k * 2 / 2 = k by omega]
theorem rowL_val (L : Prs) (k : Nat) : rowL L (k * 2 + 1) = (L.getD k (0, 0)).2 := by
  unfold rowL
  rw [if_neg (by omega), show (k * 2 + 1) / 2 = k by omega]
theorem vals_eqP {N : Nat} {F G : Nat → Int} (e : ∀ p, p < N → F p = G p) : vals F N = vals G N := by
  unfold vals
  exact List.map_congr_left fun p hp => by rw [e p (List.mem_range.1 hp)]
theorem own_eqP {w : World} {B m n : Nat} {ty : TypeId} {F G : Nat → Int} {v : Value} (h : Own w B ty m n F v) (e : ∀ p, p < n * m → F p = G p) : Own w B ty m n G v := by
  unfold Own at h ⊢
  rwa [← vals_eqP e]

theorem rowL_is (L : Prs) (p : Nat) : rowL L p = if p % 2 = 0 then (L[p / 2]?.getD (0, 0)).1 else (L[p / 2]?.getD (0, 0)).2 := by
  unfold rowL
  rw [List.getD_eq_getElem?_getD]
theorem rowL_insert {L : Prs} {i p : Nat} {k v : Int} (hi : i ≤ L.length) (hp : p < (L.length + 1) * 2) : insF (rowL L) 2 L.length i [k, v] p = rowL (L.insertIdx i (k, v)) p := by
  rw [rowL_is (L.insertIdx i (k, v)), List.getElem?_insertIdx]
  rcases Nat.lt_or_ge p (i * 2) with h | h
  · rw [insF_lt h, if_pos (show p / 2 < i by omega), rowL_is]
  · rcases Nat.lt_or_ge p ((i + 1) * 2) with h2 | h2
    · have := insF_at (F := rowL L) (m := 2) (n := L.length) (i := i) (p := p - i * 2) (xs := [k, v]) rfl (by omega)
      rw [show i * 2 + (p - i * 2) = p by omega] at this
      rw [this, if_neg (show ¬ p / 2 < i by omega), if_pos (show p / 2 = i by omega), if_pos (show p / 2 ≤ L.length by omega)]
      rcases Nat.mod_two_eq_zero_or_one p with q | q
      · rw [if_pos q, show p - i * 2 = 0 by omega]; rfl
      · rw [if_neg (by omega), show p - i * 2 = 1 by omega]; rfl
    · have := insF_gt (F := rowL L) (m := 2) (n := L.length) (i := i) (p := p - (i + 1) * 2) (xs := [k, v]) rfl (by omega)
      rw [show (i + 1) * 2 + (p - (i + 1) * 2) = p by omega] at this
      rw [this, if_neg (show ¬ p / 2 < i by omega), if_neg (show ¬ p / 2 = i by omega), rowL_is,
        show (i * 2 + (p - (i + 1) * 2)) % 2 = p % 2 by omega, show (i * 2 + (p - (i + 1) * 2)) / 2 = p / 2 - 1 by omega]
end Go.Proofs.YtdbcmckoiacemaaGreat

namespace Go.Proofs.YtdbcmckoiacemaaGreat
open Go.RowKit

/-- One came ahead of the other. -/
abbrev ltD (a b : Int × Int) : Prop := a.2 < b.2 ∨ a.2 = b.2 ∧ a.1 < b.1
def RisesD (L : Prs) : Prop := L.Pairwise ltD
def aheadDN (L : Prs) (x : Int × Int) : Nat := (L.takeWhile fun e => decide (ltD e x)).length
theorem aheadDN_le (L : Prs) (x : Int × Int) : aheadDN L x ≤ L.length := (List.takeWhile_sublist _).length_le
theorem aheadDN_lt {L : Prs} {x : Int × Int} {j : Nat} (h : j < aheadDN L x) : ltD (L.getD j (0, 0)) x := by
  induction L generalizing j with
  | nil => simp [aheadDN] at h
  | cons e t ih =>
    unfold aheadDN at h ih
    rw [List.takeWhile_cons] at h
    split at h
    · rename_i he
      cases j with
      | zero => simpa using he
      | succ j => simpa using ih (by simpa using h)
    · simp at h
theorem aheadDN_not {L : Prs} {x : Int × Int} (h : aheadDN L x < L.length) : ¬ ltD (L.getD (aheadDN L x) (0, 0)) x := by
  induction L with
  | nil => simp at h
  | cons e t ih =>
    unfold aheadDN at h ih ⊢
    rw [List.takeWhile_cons] at h ⊢
    split
    · rename_i he
      rw [if_pos he] at h
      simpa using ih (by simpa using h)
    · rename_i he
      simpa using he
theorem ahead_row {L : Prs} {a b : Int} {j : Nat} : aheadD (rowL L) a b j ↔ ltD (L.getD j (0, 0)) (a, b) := by
  unfold aheadD ltD
  rw [rowL_key, rowL_val]
theorem place_isD {L : Prs} {a b : Int} {i : Nat} (h : placeAtD (aheadD (rowL L) a b) L.length i) : i = aheadDN L (a, b) := by
  obtain ⟨h1, h2, h3⟩ := h
  rcases Nat.lt_trichotomy i (aheadDN L (a, b)) with q | q | q
  · exact absurd (ahead_row.2 (aheadDN_lt q)) (h3 (Nat.lt_of_lt_of_le q (aheadDN_le L _)))
  · exact q
  · exact absurd (ahead_row.1 (h2 _ q)) (aheadDN_not (by omega))
theorem ltD_trans {a b c : Int × Int} (h : ltD a b) (h' : ltD b c) : ltD a c := by
  unfold ltD at *
  omega
theorem rises_monoD {L : Prs} (h : RisesD L) {a b : Int} (i j : Nat) (hij : i ≤ j) (hj : j < L.length) (ha : aheadD (rowL L) a b j) : aheadD (rowL L) a b i := by
  rw [ahead_row] at *
  rcases Nat.eq_or_lt_of_le hij with rfl | q
  · exact ha
  · have := List.pairwise_iff_getElem.1 h i j (by omega) hj q
    simp only [List.getD_eq_getElem?_getD, List.getElem?_eq_getElem hj, List.getElem?_eq_getElem (show i < L.length by omega), Option.getD_some] at ha ⊢
    exact ltD_trans this ha
/-- One more, at its place. -/
def putD (L : Prs) (x : Int × Int) : Prs := L.insertIdx (aheadDN L x) x
theorem putD_cons (e : Int × Int) (t : Prs) (x : Int × Int) : putD (e :: t) x = if ltD e x then e :: putD t x else x :: e :: t := by
  unfold putD aheadDN
  rw [List.takeWhile_cons]
  by_cases h : ltD e x
  · simp [h]
  · simp [h]
theorem putD_mem {L : Prs} {x a : Int × Int} (h : a ∈ putD L x) : a = x ∨ a ∈ L := by
  induction L with
  | nil => simpa [putD, aheadDN] using h
  | cons e t ih =>
    rw [putD_cons] at h
    split at h
    · rcases List.mem_cons.1 h with q | q
      · exact Or.inr (by rw [q]; simp)
      · rcases ih q with r | r
        · exact Or.inl r
        · exact Or.inr (List.mem_cons_of_mem _ r)
    · rcases List.mem_cons.1 h with q | q
      · exact Or.inl q
      · exact Or.inr q
/-- Two that differ in their places stand one behind the other. -/
theorem ltD_or {a b : Int × Int} (h : a.1 ≠ b.1) : ltD a b ∨ ltD b a := by
  unfold ltD
  omega
theorem putD_rises {L : Prs} (h : RisesD L) {x : Int × Int} (hx : ∀ e ∈ L, e.1 ≠ x.1) : RisesD (putD L x) := by
  induction L with
  | nil => simp [putD, aheadDN, RisesD]
  | cons e t ih =>
    have ht := List.pairwise_cons.1 h
    rw [putD_cons]
    split
    · rename_i he
      refine List.pairwise_cons.2 ⟨fun a ha => ?_, ih ht.2 (fun e he => hx e (List.mem_cons_of_mem _ he))⟩
      rcases putD_mem ha with rfl | q
      · exact he
      · exact ht.1 a q
    · rename_i he
      have hlt : ltD x e := (ltD_or (hx e (by simp))).resolve_left he
      refine List.pairwise_cons.2 ⟨fun a ha => ?_, h⟩
      rcases List.mem_cons.1 ha with rfl | q
      · exact hlt
      · exact ltD_trans hlt (ht.1 a q)
/-- Where nothing of that place stands, nothing stands at its place. -/
theorem notD {L : Prs} {x : Int × Int} (hx : ∀ e ∈ L, e.1 ≠ x.1) : ¬ (aheadDN L x < L.length ∧ (L.getD (aheadDN L x) (0, 0)).1 = x.1 ∧ (L.getD (aheadDN L x) (0, 0)).2 = x.2) := fun ⟨h1, h2, _⟩ => by
  have hg : L.getD (aheadDN L x) (0, 0) = L[aheadDN L x] := by simp [List.getD, h1]
  rw [hg] at h2
  exact hx _ (List.getElem_mem h1) h2
theorem putD_length (L : Prs) (x : Int × Int) : (putD L x).length = L.length + 1 := List.length_insertIdx_of_le_length (aheadDN_le L x) _
end Go.Proofs.YtdbcmckoiacemaaGreat

namespace Go.Proofs.YtdbcmckoiacemaaGreat
open Go.RowKit

theorem Blk2.set0P {x : World} {b : Nat} {a0 a1 : Value} (h : Blk2 x b a0 a1) (u : Value) : Blk2 (x.setCell ⟨b, 0, none⟩ u) b u a1 := by
  obtain ⟨⟨h0, h1⟩, f0, f1⟩ := h
  exact ⟨⟨World.cell?_setCell_same _ _ _ h0, (World.cell?_setCell_other _ _ _ _ (by simp)).trans h1⟩, by simpa using f0, by simpa using f1⟩
end Go.Proofs.YtdbcmckoiacemaaGreat

namespace Go.Proofs.YtdbcmckoiacemaaGreat
open Go.RowKit

/-- The list's box, the box of a pair, and that nothing old has turned. -/
def RisED (w : World) (b c : Nat) (v : Value) (k x : Int) (X : World) : Prop := Blk2 X b v (.func (.func 61) #[] #[]) ∧ Blk2 X c (.int .i64 k) (.int .i64 x) ∧ Below w.heap.size w X
theorem RisED.later {w X X' : World} {b c : Nat} {v : Value} {k x : Int} (h : RisED w b c v k x X) (hb : Below X.heap.size X X') : RisED w b c v k x X' := ⟨h.1.later hb, h.2.1.later hb, h.2.2.trans (hb.mono h.2.2.size)⟩
theorem RisED.drew {w X : World} {b c : Nat} {v : Value} {k x : Int} (h : RisED w b c v k x X) : RisED w b c v k x X.drew := ⟨h.1, h.2.1, h.2.2.drew⟩
/-- It stands there. -/
def atD (L : Prs) (k x : Int) : Prop := aheadDN L (k, x) < L.length ∧ (L.getD (aheadDN L (k, x)) (0, 0)).1 = k ∧ (L.getD (aheadDN L (k, x)) (0, 0)).2 = x
def PlaceIsD (w : World) (L : Prs) (k x : Int) (e : Ending) (w' : World) : Prop := ∃ r : Bool, e = .returned (.tuple #[.int .i64 (aheadDN L (k, x)), .bool r]) ∧ (r = true ↔ atD L k x) ∧ Below w.heap.size w w'
set_option maxRecDepth 100000 in
set_option maxHeartbeats 2000000 in
theorem place_anyD (L : Prs) (b B : Nat) (v : Value) (k x : Int) (w : World) (hb : Blk2 w b v (.func (.func 61) #[] #[])) (ho : Own w B 110 2 L.length (rowL L) v) (hr : RisesD L) (hn : L.length ≤ 1000) :
    Calls Tryz.prog 106 #[.pointer (some ⟨b, 0, none⟩), .agg #[.int .i64 k, .int .i64 x]] w (PlaceIsD w L k x) := by
  obtain ⟨ao, cp, rfl⟩ := ho.form
  have HO : Hid (Own w B 110 2 L.length (rowL L) (.slice ao L.length cp) ∧ RisesD L) := ⟨ho, hr⟩
  have HE : RisED w b w.heap.size (.slice ao L.length cp) k x ((w.alloc (.cells #[.int .i64 k, .int .i64 x] 110)).drew) := RisED.drew ⟨hb.alloc _, Blk2.new w _ _ _, below_alloc _ _⟩
  clear ho hr hb
  go_enter Tryz.func106, Tryz.ntmps106
  go_upto_region 1 with fail
  refine wp_region_held_drew (S := RisED w b w.heap.size (.slice ao L.length cp) k x) (by kernel_rfl) HE (fun hS => ?_)
  clear HE
  refine tkH 0 ?_ hS (fun wx hx => ?_) ?_; rotate_left
  · obtain ⟨⟨⟨hx0, hx1⟩, hx4, hx5⟩, ⟨⟨hx2, hx3⟩, hx6, hx7⟩, _⟩ := hx; go_simp; try with_reducible rfl
  refine tkH 1 ?_ hS (fun wx hx => ?_) ?_; rotate_left
  · obtain ⟨⟨⟨hx0, hx1⟩, hx4, hx5⟩, ⟨⟨hx2, hx3⟩, hx6, hx7⟩, _⟩ := hx; go_simp; try with_reducible rfl
  refine tkH 2 ?_ hS (fun wx hx => ?_) ?_; rotate_left
  · obtain ⟨⟨⟨hx0, hx1⟩, hx4, hx5⟩, ⟨⟨hx2, hx3⟩, hx6, hx7⟩, _⟩ := hx; go_simp; try with_reducible rfl
  refine tkH 3 ?_ hS (fun wx hx => ?_) ?_; rotate_left
  · obtain ⟨⟨⟨hx0, hx1⟩, hx4, hx5⟩, ⟨⟨hx2, hx3⟩, hx6, hx7⟩, _⟩ := hx; go_simp; try with_reducible rfl
  refine tkH 4 ?_ hS (fun wx hx => ?_) ?_; rotate_left
  · obtain ⟨⟨⟨hx0, hx1⟩, hx4, hx5⟩, ⟨⟨hx2, hx3⟩, hx6, hx7⟩, _⟩ := hx; go_simp; try with_reducible rfl
  refine tkH 5 ?_ hS (fun wx hx => ?_) ?_; rotate_left
  · obtain ⟨⟨⟨hx0, hx1⟩, hx4, hx5⟩, ⟨⟨hx2, hx3⟩, hx6, hx7⟩, _⟩ := hx; go_simp; try with_reducible rfl
  refine tkH 6 ?_ hS (fun wx hx => ?_) ?_; rotate_left
  · obtain ⟨⟨⟨hx0, hx1⟩, hx4, hx5⟩, ⟨⟨hx2, hx3⟩, hx6, hx7⟩, _⟩ := hx; go_simp; try with_reducible rfl
  refine tkH 7 ?_ hS (fun wx hx => ?_) ?_; rotate_left
  · obtain ⟨⟨⟨hx0, hx1⟩, hx4, hx5⟩, ⟨⟨hx2, hx3⟩, hx6, hx7⟩, _⟩ := hx; go_simp; try with_reducible rfl
  refine tkH 8 ?_ hS (fun wx hx => ?_) ?_; rotate_left
  · obtain ⟨⟨⟨hx0, hx1⟩, hx4, hx5⟩, ⟨⟨hx2, hx3⟩, hx6, hx7⟩, _⟩ := hx; go_simp; try with_reducible rfl
  refine rdH 9 (fun K hK => ?_)
  go_simp
  go_wp2_with fail
  refine (searchD_any _ _ _ _ B k x _ (HO.out.1.later hS.2.2).row.1 hn (fun i j h1 h2 h3 => rises_monoD HO.out.2 i j h1 h2 h3)).mono ?_
  rintro e w1 ⟨i, r, rfl, hp, hr, q1⟩
  obtain rfl := place_isD hp
  simp only [rowL_key, rowL_val] at hr
  have HR : Hid (r = true ↔ atD L k x) := hr
  have HB : Hid (Below w.heap.size w w1) := hS.2.2.trans (q1.mono hS.2.2.size)
  have hS1 := hS.later q1
  clear hp hr q1 hS HO
  go_wp2_with fail
  refine hK.out _ _ hS1 (fun hS => ?_)
  clear hK K hS1
  refine tkH 10 ?_ hS (fun wx hx => ?_) ?_; rotate_left
  · obtain ⟨⟨⟨hx0, hx1⟩, hx4, hx5⟩, ⟨⟨hx2, hx3⟩, hx6, hx7⟩, _⟩ := hx; go_simp; try with_reducible rfl
  refine tkH 11 ?_ hS (fun wx hx => ?_) ?_; rotate_left
  · obtain ⟨⟨⟨hx0, hx1⟩, hx4, hx5⟩, ⟨⟨hx2, hx3⟩, hx6, hx7⟩, _⟩ := hx; go_simp; try with_reducible rfl
  refine tkH 12 ?_ hS (fun wx hx => ?_) ?_; rotate_left
  · obtain ⟨⟨⟨hx0, hx1⟩, hx4, hx5⟩, ⟨⟨hx2, hx3⟩, hx6, hx7⟩, _⟩ := hx; go_simp; try with_reducible rfl
  refine tkH 13 ?_ hS (fun wx hx => ?_) ?_; rotate_left
  · obtain ⟨⟨⟨hx0, hx1⟩, hx4, hx5⟩, ⟨⟨hx2, hx3⟩, hx6, hx7⟩, _⟩ := hx; go_simp; try with_reducible rfl
  refine wpAnyH_done (by kernel_rfl) ?_ _
  go_simp
  go_wp2
  go_ret2
  exact ⟨r, rfl, HR.out, HB.out⟩
theorem own_grownD {w w' : World} {b B : Nat} {v a0 a1 : Value} {n : Nat} {F : Nat → Int} (hb : Blk2 w b a0 a1) (ho : Own w B 110 2 n F v) (hB : b < B) (hg : w.grownBy w' v.ownBlock) : Blk2 w' b a0 a1 :=
  hb.kept (hg.block b hb.lt (fun e => by have := (own_in ho b e.symm).1; omega))
/-- What turned lies in the list's own blocks. -/
theorem grown_belowD {w w' : World} {B D : Nat} {v : Value} {n : Nat} {F : Nat → Int} (ho : Own w B 110 2 n F v) (hD : D ≤ B) (hDw : D ≤ w.heap.size) (hg : w.grownBy w' v.ownBlock) : Below D w w' :=
  ⟨hg.os, hg.tape, hg.output, hg.size, fun i hi => hg.block i (by omega) (fun e => by have := (own_in ho i e.symm).1; omega)⟩
/-- The list stands in its box: its own memory is behind the box. -/
def RisD (w : World) (b : Nat) (L : Prs) : Prop := ∃ v, Blk2 w b v (.func (.func 61) #[] #[]) ∧ Own w (b + 1) 110 2 L.length (rowL L) v
theorem RisD.later {w w' : World} {b : Nat} {L : Prs} (h : RisD w b L) (hb : Below w.heap.size w w') : RisD w' b L := by
  obtain ⟨v, h1, h2⟩ := h
  exact ⟨v, h1.later hb, h2.later hb⟩
theorem RisD.lt {w : World} {b : Nat} {L : Prs} (h : RisD w b L) : b < w.heap.size := by
  obtain ⟨v, h1, _⟩ := h
  exact h1.lt
theorem stored_isD {w : World} {b : Nat} {v v' : Value} {L : Prs} (hb : Blk2 w b v (.func (.func 61) #[] #[])) (ho : Own w (b + 1) 110 2 L.length (rowL L) v') : Blk2 (w.setCell ⟨b, 0, none⟩ v') b v' (.func (.func 61) #[] #[]) ∧ Own (w.setCell ⟨b, 0, none⟩ v') (b + 1) 110 2 L.length (rowL L) v' :=
  ⟨Blk2.set0P hb _, own_kept ho (fun j hj => Below.heap_setCell w ⟨b, 0, none⟩ _ j (fun e => by have := (own_in ho j hj).1; simp at e; omega))⟩
set_option maxRecDepth 100000 in
set_option maxHeartbeats 2000000 in
theorem drop_anyD (L : Prs) (b : Nat) (v : Value) (k x : Int) (w : World) (hb : Blk2 w b v (.func (.func 61) #[] #[])) (ho : Own w (b + 1) 110 2 L.length (rowL L) v) (hr : RisesD L) (hx : ∀ e ∈ L, e.1 ≠ k) (hn : L.length ≤ 1000) :
    Calls Tryz.prog 105 #[.pointer (some ⟨b, 0, none⟩), .agg #[.int .i64 k, .int .i64 x]] w fun e w' => e = .returned (.tuple #[]) ∧ Below w.heap.size w w' := by
  have HO : Hid (Own w (b + 1) 110 2 L.length (rowL L) v ∧ RisesD L ∧ Blk2 w b v (.func (.func 61) #[] #[]) ∧ ¬ atD L k x) := ⟨ho, hr, hb, notD (x := (k, x)) hx⟩
  clear ho hr hb hx
  go_enter Tryz.func105, Tryz.ntmps105
  go_wp2_with fail
  refine (place_anyD L b (b + 1) _ k x _ (HO.out.2.2.1.alloc _) (HO.out.1.alloc _) HO.out.2.1 hn).mono ?_
  rintro e w1 ⟨r, rfl, hr, q1⟩
  have HB : Hid (Below w.heap.size w w1) := (below_alloc w _).trans (q1.mono (by simp))
  obtain rfl : r = false := Bool.eq_false_iff.2 (fun q => HO.out.2.2.2 (hr.1 q))
  clear q1 hr
  go_wp2
  go_end0
  exact ⟨rfl, HB.out⟩
set_option maxRecDepth 100000 in
set_option maxHeartbeats 2000000 in
theorem put_anyD (L : Prs) (b : Nat) (k x : Int) (w : World) (h : RisD w b L) (hr : RisesD L) (hx : ∀ e ∈ L, e.1 ≠ k) (hn : L.length ≤ 900) :
    Calls Tryz.prog 64 #[.pointer (some ⟨b, 0, none⟩), .agg #[.int .i64 k, .int .i64 x]] w fun e w' => e = .returned (.tuple #[]) ∧ RisD w' b (putD L (k, x)) ∧ Below b w w' := by
  obtain ⟨v, hb, ho⟩ := h
  obtain ⟨ao, cp, rfl⟩ := ho.form
  have HO : Hid (Blk2 w b (.slice ao L.length cp) (.func (.func 61) #[] #[]) ∧ Own w (b + 1) 110 2 L.length (rowL L) (.slice ao L.length cp) ∧ RisesD L ∧ ∀ e ∈ L, e.1 ≠ k) := ⟨hb, ho, hr, hx⟩
  have hbw : b < w.heap.size := hb.lt
  have HVB : Hid (∀ q, (Value.slice ao L.length cp).ownBlock = some q → q < w.heap.size) := fun q hq => (own_in ho q hq).2
  clear hb ho hr hx
  go_enter Tryz.func64, Tryz.ntmps64
  go_wp2_with fail
  refine (drop_anyD L b _ k x _ (HO.out.1.alloc _) (HO.out.2.1.alloc _) HO.out.2.2.1 HO.out.2.2.2 (by omega)).mono ?_
  rintro e w1 ⟨rfl, q1⟩
  have R1 : Hid (Blk2 w1 b (.slice ao L.length cp) (.func (.func 61) #[] #[]) ∧ Own w1 (b + 1) 110 2 L.length (rowL L) (.slice ao L.length cp) ∧ Blk2 w1 w.heap.size (.int .i64 k) (.int .i64 x) ∧ Below b w w1) := ⟨(HO.out.1.alloc _).later q1, (HO.out.2.1.alloc _).later q1, (Blk2.new w _ _ 110).later q1, ((below_alloc w _).mono (Nat.le_of_lt hbw)).trans (q1.mono (by simp; omega))⟩
  obtain ⟨⟨c0, c1⟩, _, _⟩ := R1.out.2.2.1
  clear q1
  go_wp2_with fail
  refine (place_anyD L b (b + 1) _ k x _ R1.out.1 R1.out.2.1 HO.out.2.2.1 (by omega)).mono ?_
  rintro e w2 ⟨r, rfl, _, q2⟩
  have R2 : Hid (Blk2 w2 b (.slice ao L.length cp) (.func (.func 61) #[] #[]) ∧ Own w2 (b + 1) 110 2 L.length (rowL L) (.slice ao L.length cp) ∧ Blk2 w2 w.heap.size (.int .i64 k) (.int .i64 x) ∧ Below b w w2) := ⟨R1.out.1.later q2, R1.out.2.1.later q2, R1.out.2.2.1.later q2, R1.out.2.2.2.trans (q2.mono (by have := R1.out.2.2.2.size; omega))⟩
  have hle : aheadDN L (k, x) ≤ L.length := aheadDN_le L (k, x)
  obtain ⟨A, hA⟩ : ∃ A, aheadDN L (k, x) = A := ⟨_, rfl⟩
  have HAA : Hid (putD L (k, x) = L.insertIdx A (k, x)) := by unfold Hid; rw [← hA]; rfl
  rw [hA] at hle
  rw [hA]
  clear hA q2 R1 c0 c1
  have hw2 : b < w2.heap.size := R2.out.1.lt
  have hc2 : w.heap.size < w2.heap.size := R2.out.2.2.1.lt
  have HI : Hid (Calls Tryz.prog 107 #[.slice ao L.length cp, .int .i64 A, .slice (some ⟨w2.heap.size, 0, none⟩) 1 1] (w2.drew.alloc (.cells #[.int .i64 k, .int .i64 x] 110)) (InsD (w2.drew.alloc (.cells #[.int .i64 k, .int .i64 x] 110)) (b + 1) L.length A (rowL L) [k, x] (.slice ao L.length cp))) :=
    insD_any _ (b + 1) L.length A w2.heap.size 1 (rowL L) [k, x] _ rfl (R2.out.2.1.later ((Below.drew (Below.refl _ _)).trans ((below_alloc _ _).mono (Nat.le_refl _)))) (by simp; omega) (by omega) hle (fun e => by have := (own_in R2.out.2.1 _ e).2; omega) (Blkk.made w2.drew _ _ _ rfl) (fun p hp => by
      rw [World.cell?_alloc_at (w := w2.drew) _ _ w2.heap.size p rfl]
      obtain rfl | rfl : p = 0 ∨ p = 1 := by omega
      all_goals rfl)
  have HYB : Hid (Below w2.heap.size w2 (w2.drew.alloc (.cells #[.int .i64 k, .int .i64 x] 110))) := (Below.drew (Below.refl _ _)).trans ((below_alloc _ _).mono (Nat.le_refl _))
  have SY : Hid (Blk2 (w2.drew.alloc (.cells #[.int .i64 k, .int .i64 x] 110)) b (.slice ao L.length cp) (.func (.func 61) #[] #[]) ∧ Blk2 (w2.drew.alloc (.cells #[.int .i64 k, .int .i64 x] 110)) w.heap.size (.int .i64 k) (.int .i64 x)) := ⟨R2.out.1.later HYB.out, R2.out.2.2.1.later HYB.out⟩
  have HOY : Hid (Own (w2.drew.alloc (.cells #[.int .i64 k, .int .i64 x] 110)) (b + 1) 110 2 L.length (rowL L) (.slice ao L.length cp) ∧ Below b w (w2.drew.alloc (.cells #[.int .i64 k, .int .i64 x] 110))) := ⟨R2.out.2.1.later HYB.out, R2.out.2.2.2.trans (HYB.out.mono (by omega))⟩
  obtain ⟨⟨p0, p1⟩, _, _⟩ := R2.out.1
  have hS0 : (fun X : World => Blk2 X w.heap.size (.int .i64 k) (.int .i64 x)) w2.drew := R2.out.2.2.1
  clear R2
  go_upto_region 3 with fail
  refine wp_region_held_drew (S := (fun X : World => Blk2 X w.heap.size (.int .i64 k) (.int .i64 x))) (by kernel_rfl) hS0 (fun hS => ?_)
  clear hS0
  refine tkH 0 ?_ hS (fun wx hx => ?_) ?_; rotate_left
  · obtain ⟨⟨hx2, hx3⟩, hx6, hx7⟩ := hx; go_simp; try with_reducible rfl
  refine tkH 1 ?_ hS (fun wx hx => ?_) ?_; rotate_left
  · obtain ⟨⟨hx2, hx3⟩, hx6, hx7⟩ := hx; go_simp; try with_reducible rfl
  refine tkH 2 ?_ hS (fun wx hx => ?_) ?_; rotate_left
  · obtain ⟨⟨hx2, hx3⟩, hx6, hx7⟩ := hx; go_simp; try with_reducible rfl
  refine tkH 3 ?_ hS (fun wx hx => ?_) ?_; rotate_left
  · obtain ⟨⟨hx2, hx3⟩, hx6, hx7⟩ := hx; go_simp; try with_reducible rfl
  refine tkH 5 ?_ hS (fun wx hx => ?_) ?_; rotate_left
  · obtain ⟨⟨hx2, hx3⟩, hx6, hx7⟩ := hx; go_simp; try with_reducible rfl
  refine tkH 6 ?_ hS (fun wx hx => ?_) ?_; rotate_left
  · obtain ⟨⟨hx2, hx3⟩, hx6, hx7⟩ := hx; go_simp; try with_reducible rfl
  refine wpAnyH_ready (rs := [4, 7]) (by kernel_rfl) (by simp) ?_
  refine AllReadyH.cons rfl (fun K hK => ?_) (AllReadyH.cons rfl (fun K hK => ?_) AllReadyH.nil)
  focus
    go_simp
    refine hK.out _ _ hS (fun hS => ?_)
    clear hK K p0 p1
    refine rdH 7 (fun K hK => ?_)
    go_simp
    refine hK.out _ _ SY.out.2 (fun hS => ?_)
    clear hK K
  rotate_left
  focus
    go_simp
    refine hK.out _ _ SY.out.2 (fun hS => ?_)
    clear hK K
    refine rdH 4 (fun K hK => ?_)
    go_simp
    refine hK.out _ _ hS (fun hS => ?_)
    clear hK K p0 p1
  rotate_left
  all_goals
    refine rdH 8 (fun K hK => ?_)
    go_simp
    go_wp2_with fail
    refine HI.out.mono ?_
    rintro e w3 ⟨a3, c3, rfl, ho3, hg3, _⟩
    have HB3 : Hid (Blk2 w3 b (.slice ao L.length cp) (.func (.func 61) #[] #[])) := own_grownD SY.out.1 HOY.out.1 (by omega) hg3
    have hS3 : Blk2 w3 w.heap.size (.int .i64 k) (.int .i64 x) := SY.out.2.kept (hg3.block _ (by simp; omega) (fun e => by have := HVB.out _ e.symm; omega))
    have HO3 : Hid (Own w3 (b + 1) 110 2 (putD L (k, x)).length (rowL (putD L (k, x))) (.slice a3 (L.length + 1) c3)) := by
      unfold Hid
      rw [HAA.out, List.length_insertIdx_of_le_length hle]
      exact own_eqP ho3 (fun p hp => rowL_insert hle hp)
    have HD3 : Hid (Below b w w3) := HOY.out.2.trans (grown_belowD HOY.out.1 (by omega) (by simp; omega) hg3)
    clear ho3 hg3
    go_wp2_with fail
    refine hK.out _ _ hS3 (fun hS => ?_)
    clear hK K hS3
    refine tkH 9 ?_ hS (fun wx hx => ?_) ?_; rotate_left
    · obtain ⟨⟨hx2, hx3⟩, hx6, hx7⟩ := hx; go_simp; try with_reducible rfl
    refine tkH 10 ?_ hS (fun wx hx => ?_) ?_; rotate_left
    · obtain ⟨⟨hx2, hx3⟩, hx6, hx7⟩ := hx; go_simp; try with_reducible rfl
    refine rdH 11 (fun K hK => ?_)
    obtain ⟨⟨x0, x1⟩, x2, x3⟩ := HB3.out
    go_simp
    refine hK.out _ _ (hS.kept (Below.heap_setCell _ ⟨b, 0, none⟩ _ _ (by simp; omega))) (fun hS => ?_)
    clear hK K x0 x1 x2 x3
    refine wpAnyH_done (by kernel_rfl) ?_ _
    go_simp
    go_end0
    exact ⟨rfl, ⟨_, stored_isD HB3.out HO3.out⟩, HD3.out.setCell (Nat.le_refl _) _⟩
end Go.Proofs.YtdbcmckoiacemaaGreat

namespace Go.Proofs.YtdbcmckoiacemaaGreat
open Go.RowKit

theorem l9Time_at (now : Int) (r : Bool) (hr : decide (0 ≤ now ∧ now ≤ 100000) = r) (w : World) :
    Calls Tryz.prog 37 #[.int .i64 now] w fun e w' => e = .returned (.bool r) ∧ w' = w := by
  go_enter Tryz.func37, Tryz.ntmps37
  go_wp2_with fail
  refine (inT_is _ _ _ _ hr _).mono ?_
  rintro e w1 ⟨rfl, rfl⟩
  go_wp2
  go_ret
  exact ⟨rfl, rfl⟩
set_option maxRecDepth 100000 in
set_option maxHeartbeats 8000000 in
theorem l10Fault_any (b : Nat) (nw nx bd : Int) (nr : Nat) (F : Nat → Int) (n : Nat) (S : Nat → Sto) (V : Nat → Nat → Value) (vr vs : Value) (nt : Nat) (T : Nat → Tx) (X : Nat → Value) (vt : Value) (w : World) (h : LiesD w b nw nx bd nr F n S V vr vs nt T X vt) (hr : nr ≤ 9223372036854775807) (hn : n ≤ 9223372036854775807) (ht : nt ≤ 9223372036854775807) (hm : ∀ i, i < nt → (T i).m ≤ 9223372036854775807) :
    Calls Tryz.prog 21 #[.pointer (some ⟨b, 0, none⟩)] w fun e w' => e = .returned (.int .i64 (worldF nw nx bd nr F n S nt T)) ∧ Below w.heap.size w w' := by
  obtain ⟨a0, c0, a1, c1, rfl, rfl⟩ := h.2.1.form
  obtain ⟨a2, c2, rfl⟩ := h.2.2.form
  have H : Hid (LiesD w b nw nx bd nr F n S V (.slice a0 nr c0) (.slice a1 n c1) nt T X (.slice a2 nt c2)) := h
  have HM : Hid (∀ i, i < nt → (T i).m ≤ 9223372036854775807) := hm
  obtain ⟨⟨⟨p0, p1, p2, p3, p4, p5⟩, _⟩, _⟩ := h
  clear hm
  by_cases h0 : 0 ≤ nw ∧ nw ≤ 100000
  case neg =>
    have D0 : Hid (decide (0 ≤ nw ∧ nw ≤ 100000) = false) := decide_eq_false h0
    have E : Hid (worldF nw nx bd nr F n S nt T = 3) := worldF_now h0
    clear h0
    go_enter Tryz.func21, Tryz.ntmps21
    go_wp2_with fail
    refine (l9Time_at nw false D0.out _).mono ?_
    rintro e w1 ⟨rfl, rfl⟩
    go_wp2
    go_ret
    exact ⟨by rw [E.out]; rfl, Below.refl _ _⟩
  have D0 : Hid (decide (0 ≤ nw ∧ nw ≤ 100000) = true) := decide_eq_true h0
  have H0 : Hid (0 ≤ nw ∧ nw ≤ 100000) := h0
  clear h0
  obtain ⟨f, hf⟩ : ∃ f, oFault nx bd = f := ⟨_, rfl⟩
  have HF : Hid (oFault nx bd = f) := hf
  clear hf
  go_enter Tryz.func21, Tryz.ntmps21
  go_wp2_with fail
  refine (l9Time_at nw true D0.out _).mono ?_
  rintro e w1 ⟨rfl, rfl⟩
  go_wp2_with fail
  refine (l5Fault_at nx bd b _ p1 p2).mono ?_
  rw [HF.out]
  rintro e w2 ⟨rfl, q, rfl⟩
  have B2 : Hid (Below w1.heap.size w1 (w1.drewN q)) := below_dt (Below.refl _ _) _
  by_cases hz : f = 0
  case neg =>
    have d : (f == 0) = false := beq_eq_false_iff_ne.2 hz
    have d' : (f != 0) = true := bne_iff_ne.2 hz
    have E : Hid (worldF nw nx bd nr F n S nt T = f) := (worldF_oracle H0.out (by rw [HF.out]; exact hz)).trans HF.out
    clear hz HF
    go_wp2
    go_ret
    exact ⟨by rw [E.out]; rfl, B2.out⟩
  subst hz
  have L2 : Hid (LiesD (w1.drewN q) b nw nx bd nr F n S V (.slice a0 nr c0) (.slice a1 n c1) nt T X (.slice a2 nt c2)) := H.out.later B2.out
  generalize w1.drewN q = w2 at B2 L2 ⊢
  clear p0 p1 p2 p3 p4 p5 D0
  obtain ⟨⟨⟨p0, p1, p2, p3, p4, p5⟩, _⟩, _⟩ := L2.out
  obtain ⟨f, hf⟩ : ∃ f, groupsF nr F n S = f := ⟨_, rfl⟩
  have HG : Hid (groupsF nr F n S = f) := hf
  clear hf
  go_wp2_with fail
  refine (l7Fault_at nr F n S V _ _ b _ L2.out.groups hr hn).mono ?_
  rw [HG.out]
  rintro e w3 ⟨rfl, q3⟩
  have B3 : Hid (Below w1.heap.size w1 w3) := B2.out.trans (q3.mono B2.out.size)
  clear q3 L2 B2 p0 p1 p2 p3 p4 p5
  obtain ⟨⟨⟨p0, p1, p2, p3, p4, p5⟩, _⟩, _⟩ := H.out.later B3.out
  by_cases hz : f = 0
  case neg =>
    have d : (f == 0) = false := beq_eq_false_iff_ne.2 hz
    have d' : (f != 0) = true := bne_iff_ne.2 hz
    have E : Hid (worldF nw nx bd nr F n S nt T = f) := (worldF_groups H0.out HF.out (by rw [HG.out]; exact hz)).trans HG.out
    clear hz HF HG
    go_wp2
    go_ret
    exact ⟨by rw [E.out]; rfl, B3.out⟩
  subst hz
  by_cases h16 : 16 < nt
  · have d : decide ((16 : Int) < (nt : Int)) = true := decide_eq_true (by omega)
    have E : Hid (worldF nw nx bd nr F n S nt T = 2) := worldF_many H0.out HF.out HG.out h16
    clear h16 HF HG
    go_wp2
    go_ret
    exact ⟨by rw [E.out]; rfl, B3.out⟩
  have d : decide ((16 : Int) < (nt : Int)) = false := decide_eq_false (by omega)
  have EW : Hid (worldF nw nx bd nr F n S nt T = scan (placeF nx T) nt) := worldF_txns H0.out HF.out HG.out h16
  have hn16 : nt ≤ 16 := by omega
  clear h16 HF HG H0
  go_wp2_with fail
  clear p0 p1 p2 p3 p4 p5
  go_loopw [5] (fun i wr => ∃ k : Nat, k ≤ nt ∧ i = .int .i64 k ∧ Hid (scan (placeF nx T) k = 0) ∧ Hid (Below w1.heap.size w1 wr)) (fun i _ => nt - (intOf i).toNat)
  case atStart => exact ⟨0, Nat.zero_le _, rfl, rfl, B3⟩
  case round =>
    obtain ⟨k, hk, rfl, HS, HB⟩ := hrel
    have LR : Hid (LiesD wr b nw nx bd nr F n S V (.slice a0 nr c0) (.slice a1 n c1) nt T X (.slice a2 nt c2)) := H.out.later HB.out
    obtain ⟨⟨⟨p0, p1, p2, p3, p4, p5⟩, _⟩, _⟩ := LR.out
    by_cases hlt : k < nt
    case neg =>
      obtain rfl : k = nt := by omega
      have E : Hid (worldF nw nx bd nr F n S k T = 0) := EW.out.trans HS.out
      go_wp2
      go_ret
      exact ⟨by rw [E.out]; rfl, HB.out⟩
    obtain ⟨g, o, rfl, hg, LX⟩ := LR.out.2.2.lies hlt
    have LX : Hid (LiesX wr g (o + k * 6) (T k).s (T k).c (T k).u (T k).st (T k).a (T k).m (T k).L (X k)) := LX
    obtain ⟨f, hf⟩ : ∃ f, txF (T k) = f := ⟨_, rfl⟩
    have HF : Hid (txF (T k) = f) := hf
    have HF' : Hid (txnF (T k).s (T k).c (T k).u (T k).st (T k).a (T k).m (T k).L = f) := hf
    clear hf
    go_wp2_with fail
    refine (l8Fault_at g (o + k * 6) _ _ _ _ _ _ _ _ _ LX.out (HM.out k hlt)).mono ?_
    rw [HF'.out]
    rintro e w4 ⟨rfl, q4⟩
    have B4 : Hid (Below w1.heap.size w1 w4) := HB.out.trans (q4.mono HB.out.size)
    have LX4 : Hid (LiesX w4 g (o + k * 6) (T k).s (T k).c (T k).u (T k).st (T k).a (T k).m (T k).L (X k)) := LX.out.later q4
    clear q4 HB LR LX p0 p1 p2 p3 p4 p5 HF'
    by_cases hz : f = 0
    case neg =>
      have d : (f == 0) = false := beq_eq_false_iff_ne.2 hz
      have d' : (f != 0) = true := bne_iff_ne.2 hz
      have E : Hid (worldF nw nx bd nr F n S nt T = f) := by
        have h1 : placeF nx T k = f := (placeF_txn (by rw [HF.out]; exact hz)).trans HF.out
        exact EW.out.trans ((scan_stop HS.out (by rw [h1]; exact hz) hlt).trans h1)
      clear hz HF HS EW
      go_wp2
      go_ret
      exact ⟨by rw [E.out]; rfl, B4.out⟩
    subst hz
    obtain ⟨⟨⟨p0, p1, p2, p3, p4, p5⟩, _⟩, _⟩ := H.out.later B4.out
    obtain ⟨⟨x0, x1, _, _, _, _⟩, _⟩ := LX4.out
    obtain ⟨s, hs⟩ : ∃ x, (T k).s = x := ⟨_, rfl⟩
    obtain ⟨c, hc⟩ : ∃ x, (T k).c = x := ⟨_, rfl⟩
    rw [hs] at x0
    rw [hc] at x1
    have HSC : Hid ((T k).s = s ∧ (T k).c = c) := ⟨hs, hc⟩
    clear hs hc
    by_cases h1 : nx ≤ s
    · have d1 : decide (nx ≤ s) = true := decide_eq_true h1
      have E : Hid (worldF nw nx bd nr F n S nt T = 3) := by
        have e1 : placeF nx T k = 3 := placeF_next HF.out (Or.inl (by rw [HSC.out.1]; exact h1))
        exact EW.out.trans ((scan_stop HS.out (by rw [e1]; decide) hlt).trans e1)
      clear h1 HF HS EW
      go_wp2_with fail
      go_quiet (fail)
      go_wp2
      go_ret
      exact ⟨by rw [E.out]; rfl, below_dt B4.out _⟩
    have d1 : decide (nx ≤ s) = false := decide_eq_false h1
    by_cases h2 : nx ≤ c
    · have d2 : decide (nx ≤ c) = true := decide_eq_true h2
      have E : Hid (worldF nw nx bd nr F n S nt T = 3) := by
        have e1 : placeF nx T k = 3 := placeF_next HF.out (Or.inr (by rw [HSC.out.2]; exact h2))
        exact EW.out.trans ((scan_stop HS.out (by rw [e1]; decide) hlt).trans e1)
      clear h1 h2 HF HS EW
      go_wp2_with fail
      go_quiet (fail)
      go_wp2
      go_ret
      exact ⟨by rw [E.out]; rfl, below_dt B4.out _⟩
    have d2 : decide (nx ≤ c) = false := decide_eq_false h2
    have HX : Hid (¬ (nx ≤ (T k).s ∨ nx ≤ (T k).c)) := by
      unfold Hid
      rw [HSC.out.1, HSC.out.2]
      omega
    clear h1 h2
    go_wp2_with fail
    go_quiet (fail)
    go_wp2_with fail
    clear p0 p1 p2 p3 p4 p5 x0 x1 d1 d2
    go_loopw [8] (fun i wx => ∃ m : Nat, m ≤ k ∧ i = .int .i64 m ∧ Hid (¬ takenT T k m) ∧ Hid (Below w1.heap.size w1 wx)) (fun i _ => k - (intOf i).toNat)
    case atStart => exact ⟨0, Nat.zero_le _, rfl, takenT_none T k, below_dt B4.out _⟩
    case round =>
      obtain ⟨m, hmk, rfl, HT, HB⟩ := hrel
      obtain ⟨⟨⟨p0, p1, p2, p3, p4, p5⟩, _⟩, _, hx⟩ := H.out.later HB.out
      by_cases hlm : m < k
      case neg =>
        obtain rfl : m = k := by omega
        have HS1 : Hid (scan (placeF nx T) (m + 1) = 0) := scan_go HS.out (placeF_ok HF.out HX.out HT.out)
        clear HS HF HX HT HSC hx
        go_wp2
        go_roundw
        case rel => exact ⟨m + 1, by omega, by go_num, HS1, HB⟩
        case measure => simp [intOf]; omega
      obtain ⟨g1, o1, e1, _, _, ⟨x0, _⟩, _⟩ := hx.at hlt
      simp only [Option.some.injEq, Addr.mk.injEq, and_true] at e1
      obtain ⟨rfl, rfl⟩ := e1
      obtain ⟨g1, o1, e1, _, _, ⟨y0, _⟩, _⟩ := hx.at (i := m) (by omega)
      simp only [Option.some.injEq, Addr.mk.injEq, and_true] at e1
      obtain ⟨rfl, rfl⟩ := e1
      rw [HSC.out.1] at x0
      obtain ⟨r, hr'⟩ : ∃ x, (T m).s = x := ⟨_, rfl⟩
      rw [hr'] at y0
      have HR : Hid ((T m).s = r) := hr'
      clear hr' hx
      by_cases he : r = s
      · have E : Hid (worldF nw nx bd nr F n S nt T = 6) := by
          have e1 : placeF nx T k = 6 := placeF_taken HF.out HX.out ⟨m, hlm, by rw [HR.out, HSC.out.1]; exact he⟩
          exact EW.out.trans ((scan_stop HS.out (by rw [e1]; decide) hlt).trans e1)
        have d1 : (r == s) = true := beq_iff_eq.2 he
        clear he HF HS EW HT HX HR
        go_wp2_with fail
        go_quiet (fail)
        go_wp2
        go_ret
        exact ⟨by rw [E.out]; rfl, below_dt HB.out _⟩
      have d1 : (r == s) = false := beq_eq_false_iff_ne.2 he
      have HT1 : Hid (¬ takenT T k (m + 1)) := takenT_go HT.out (by rw [HR.out, HSC.out.1]; exact he)
      clear he HT HR
      go_wp2_with fail
      go_quiet (fail)
      go_wp2
      go_roundw
      case rel => exact ⟨m + 1, by omega, by go_num, HT1, below_dt HB.out _⟩
      case measure => simp [intOf]; omega
end Go.Proofs.YtdbcmckoiacemaaGreat

namespace Go.Proofs.YtdbcmckoiacemaaGreat
open Go.RowKit

theorem row_ahead {w : World} {g o n cp k B : Nat} {F : Nat → Int} (hrow : Row w B 3 n F (.slice (some ⟨g, o, none⟩) n cp)) (hk : k ≤ n) : Row w B 3 k F (.slice (some ⟨g, o, none⟩) k cp) := by
  obtain ⟨ao, cp', hv, hrw⟩ := hrow
  simp only [Value.slice.injEq] at hv
  obtain ⟨hv, _, rfl⟩ := hv
  refine ⟨_, _, rfl, fun hk0 => ?_⟩
  obtain ⟨g', o', hv', hb', hg', hc'⟩ := hrw (by omega)
  rw [← hv] at hv'
  exact ⟨g', o', hv', hb', hg', fun p hp => hc' p (by omega)⟩
set_option maxRecDepth 100000 in
set_option maxHeartbeats 4000000 in
theorem itemsFault_is (y : Value) (B n : Nat) (F : Nat → Int) (w : World) (h : Row w B 3 n F y) (hcap : CapOk y) (hn : n ≤ 12) :
    Calls Tryz.prog 145 #[y] w fun e w' => e = .returned (.int .i64 (itemsF F n 0)) ∧ Below w.heap.size w w' := by
  obtain ⟨ao, cp, rfl⟩ := h.form
  have hcp : n ≤ cp := hcap _ _ _ rfl
  have H : Hid (Row w B 3 n F (.slice ao n cp)) := h
  clear h hcap
  obtain ⟨f, hf⟩ : ∃ f, itemsF F n 0 = f := ⟨_, rfl⟩
  have HF : Hid (itemsF F n 0 = f) := hf
  rw [hf]
  clear hf
  go_enter Tryz.func145, Tryz.ntmps145
  go_wp2
  go_loopw [9] (fun i wr => ∃ k : Nat, k ≤ n ∧ i = .int .i64 k ∧ Hid (itemsF F (n - k) k = f) ∧ Hid (Below w.heap.size w wr)) (fun i _ => n - (intOf i).toNat)
  case atStart => exact ⟨0, Nat.zero_le _, rfl, HF, Below.refl _ _⟩
  case round =>
    obtain ⟨k, hk, rfl, HS, HB⟩ := hrel
    by_cases hlt : k < n
    case neg =>
      have en : n - k = 0 := by omega
      have E : Hid (f = 0) := by
        have := HS.out
        rw [en, itemsF] at this
        exact this.symm
      clear HS HF
      go_wp2
      go_ret
      exact ⟨by rw [E.out]; rfl, HB.out⟩
    have hrow := H.out.later HB.out
    obtain ⟨g, o, rfl, _, hg, x0, x1, x2⟩ := hrow.at3 hlt
    have hm : Hid (0 < n - k ∧ n - k - 1 = n - (k + 1)) := ⟨by omega, by omega⟩
    obtain ⟨n0, N0⟩ : ∃ x, F (k * 3) = x := ⟨_, rfl⟩
    rw [N0] at x0
    obtain ⟨n1, N1⟩ : ∃ x, F (k * 3 + 1) = x := ⟨_, rfl⟩
    rw [N1] at x1
    obtain ⟨n2, N2⟩ : ∃ x, F (k * 3 + 2) = x := ⟨_, rfl⟩
    rw [N2] at x2
    have NN : Hid (F (k * 3) = n0 ∧ F (k * 3 + 1) = n1 ∧ F (k * 3 + 2) = n2) := ⟨N0, N1, N2⟩
    clear N0 N1 N2
    by_cases h5 : faultOf n0 = 0
    case neg =>
      obtain ⟨q, hq⟩ : ∃ q, faultOf n0 = q := ⟨_, rfl⟩
      have HQ : Hid (faultOf n0 = q) := hq
      have E : Hid (f = q) := by
        have E0 := HS.out
        rw [itemsF_bad (f := q) hm.out.1 (by rw [NN.out.1]; unfold itemF; rw [if_pos h5]; exact hq) (by rw [← hq]; exact h5)] at E0
        exact E0.symm
      have d : (q != 0) = true := bne_iff_ne.2 (by rw [← hq]; exact h5)
      clear h5 hq HS HF
      go_wp2_with fail
      refine (keyFault_any _ _).mono ?_
      rintro e w9 ⟨rfl, hw9⟩
      obtain rfl := hw9.symm
      rw [HQ.out]
      go_wp2
      go_ret
      refine ⟨by rw [E.out]; rfl, ?_⟩
      repeat (first | exact Below.refl _ _ | exact HB.out | refine Below.setCell ?_ (by first | omega | (simp <;> omega) | (have := HB.out.size; simp <;> omega)) _ | refine Below.alloc ?_ (by first | omega | (simp <;> omega) | (have := HB.out.size; simp <;> omega)) _)
    have HK : Hid (faultOf n0 = 0) := h5
    clear h5
    obtain ⟨q, hq⟩ : ∃ q, valF n1 n2 = q := ⟨_, rfl⟩
    have HQ : Hid (valF n1 n2 = q) := hq
    have HQ' : Hid (itemF (F (k * 3)) (F (k * 3 + 1)) (F (k * 3 + 2)) = q) := by
      unfold Hid
      rw [NN.out.1, NN.out.2.1, NN.out.2.2, itemF_val HK.out]; exact hq
    clear hq
    have hkc : k ≤ cp := by omega
    have HZ : Hid (w.heap.size ≤ wr.heap.size) := HB.out.size
    have RK : Hid (Row wr B 3 k F (.slice (some ⟨g, o, none⟩) k cp)) := row_ahead hrow hk
    clear hrow
    by_cases h5 : q = 0
    case neg =>
      have E : Hid (f = q) := by
        have E0 := HS.out
        rw [itemsF_bad hm.out.1 HQ'.out h5] at E0
        exact E0.symm
      have d : (q != 0) = true := bne_iff_ne.2 h5
      clear h5 HS HF HQ'
      go_wp2_with fail
      refine (keyFault_any _ _).mono ?_
      rintro e w9 ⟨rfl, hw9⟩
      obtain rfl := hw9.symm
      rw [HK.out]
      go_wp2_with fail
      refine (itemValue_is _ _ _ _).mono ?_
      rintro e w1 ⟨rfl, q1⟩
      rw [HQ.out]
      have HB1 : Hid (Below w.heap.size w w1) := by
        refine Below.trans ?_ (q1.mono ?_)
        · repeat (first | exact Below.refl _ _ | exact HB.out | refine Below.setCell ?_ (by first | omega | (simp <;> omega) | (have := HB.out.size; simp <;> omega)) _ | refine Below.alloc ?_ (by first | omega | (simp <;> omega) | (have := HB.out.size; simp <;> omega)) _)
        · have := HZ.out; simp; omega
      clear q1
      go_wp2
      go_ret
      exact ⟨by rw [E.out]; rfl, HB1.out⟩
    subst h5
    obtain ⟨r, hr⟩ : ∃ r, hasI F n0 k = r := ⟨_, rfl⟩
    have HR : Hid (hasI F n0 k = r) := hr
    have HR' : Hid (hasI F (F (k * 3)) k = r) := by unfold Hid; rw [NN.out.1]; exact hr
    clear hr
    have K0 : Hid (Blk3 (wr.alloc (.cells #[.int .i64 n0, .int .i64 n1, .int .i64 n2] 97)) wr.heap.size (.int .i64 n0) (.int .i64 n1) (.int .i64 n2)) := Blk3.new wr _ _ _ _
    cases r with
    | true =>
      have E : Hid (f = 6) := by
        have E0 := HS.out
        rw [itemsF_two hm.out.1 HQ'.out HR'.out] at E0
        exact E0.symm
      clear HS HF HQ' HR'
      go_wp2_with fail
      refine (keyFault_any _ _).mono ?_
      rintro e w9 ⟨rfl, hw9⟩
      obtain rfl := hw9.symm
      rw [HK.out]
      go_wp2_with fail
      refine (itemValue_is _ _ _ _).mono ?_
      rintro e w1 ⟨rfl, q1⟩
      rw [HQ.out]
      have HB1 : Hid (Below w.heap.size w w1) := by
        refine Below.trans ?_ (q1.mono ?_)
        · repeat (first | exact Below.refl _ _ | exact HB.out | refine Below.setCell ?_ (by first | omega | (simp <;> omega) | (have := HB.out.size; simp <;> omega)) _ | refine Below.alloc ?_ (by first | omega | (simp <;> omega) | (have := HB.out.size; simp <;> omega)) _)
        · have := HZ.out; simp; omega
      have HB2 : Hid (Below wr.heap.size wr w1) := by
        refine Below.trans ?_ (q1.mono ?_)
        · repeat (first | exact Below.refl _ _ | exact HB.out | refine Below.setCell ?_ (by first | omega | (simp <;> omega) | (have := HB.out.size; simp <;> omega)) _ | refine Below.alloc ?_ (by first | omega | (simp <;> omega) | (have := HB.out.size; simp <;> omega)) _)
        · simp
      have R1 : Hid (Row w1 B 3 k F (.slice (some ⟨g, o, none⟩) k cp)) := RK.out.later HB2.out
      obtain ⟨⟨k0, k1, k2⟩, _⟩ := K0.out.later q1
      have hlt1 := World.block_lt_of_cell? w1 _ k0
      clear q1 K0 HB
      have h0S : (fun x : World => x.cell? ⟨wr.heap.size, 0, none⟩ = some (.int .i64 n0) ∧ Below w1.heap.size w1 x) w1.drew := ⟨k0, Below.drew (Below.refl _ _)⟩
      go_wp2_with fail
      refine wp_region_held_drew (S := fun x : World => x.cell? ⟨wr.heap.size, 0, none⟩ = some (.int .i64 n0) ∧ Below w1.heap.size w1 x) (by kernel_rfl) h0S (fun hS => ?_)
      clear h0S
      refine tkH 0 ?_ hS (fun wx hx => ?_) ?_; rotate_left
      · obtain ⟨hx0, _⟩ := hx; go_simp; try with_reducible rfl
      refine tkH 1 ?_ hS (fun wx hx => ?_) ?_; rotate_left
      · obtain ⟨hx0, _⟩ := hx; go_simp; try with_reducible rfl
      refine tkH 2 ?_ hS (fun wx hx => ?_) ?_; rotate_left
      · obtain ⟨hx0, _⟩ := hx; go_simp; try with_reducible rfl
      refine tkH 3 ?_ hS (fun wx hx => ?_) ?_; rotate_left
      · obtain ⟨hx0, _⟩ := hx; go_simp; try with_reducible rfl
      refine tkH 4 ?_ hS (fun wx hx => ?_) ?_; rotate_left
      · obtain ⟨hx0, _⟩ := hx; go_simp; try with_reducible rfl
      refine rdH 5 (fun K hK => ?_)
      go_simp
      go_wp2_with fail
      refine (keyAmong_is _ B k F n0 true HR.out _ (R1.out.later hS.2) (by omega)).mono ?_
      rintro e w2 ⟨rfl, q2⟩
      go_wp2_with fail
      refine hK.out _ _ ⟨(q2.cell (p := ⟨wr.heap.size, 0, none⟩) (Nat.lt_of_lt_of_le hlt1 hS.2.size)).trans hS.1, hS.2.trans (q2.mono hS.2.size)⟩ (fun hS => ?_)
      clear hK K q2
      refine wpAnyH_done (by kernel_rfl) ?_ _
      have HB3 : Hid (Below w.heap.size w w2) := HB1.out.trans (hS.2.mono HB1.out.size)
      go_simp
      go_wp2
      go_ret
      exact ⟨by rw [E.out]; rfl, HB3.out⟩
    | false =>
      have E : Hid (itemsF F (n - (k + 1)) (k + 1) = f) := by
        have E0 := HS.out
        rw [itemsF_on hm.out.1 HQ'.out HR'.out, hm.out.2] at E0
        exact E0
      clear HS HF HQ' HR'
      go_wp2_with fail
      refine (keyFault_any _ _).mono ?_
      rintro e w9 ⟨rfl, hw9⟩
      obtain rfl := hw9.symm
      rw [HK.out]
      go_wp2_with fail
      refine (itemValue_is _ _ _ _).mono ?_
      rintro e w1 ⟨rfl, q1⟩
      rw [HQ.out]
      have HB1 : Hid (Below w.heap.size w w1) := by
        refine Below.trans ?_ (q1.mono ?_)
        · repeat (first | exact Below.refl _ _ | exact HB.out | refine Below.setCell ?_ (by first | omega | (simp <;> omega) | (have := HB.out.size; simp <;> omega)) _ | refine Below.alloc ?_ (by first | omega | (simp <;> omega) | (have := HB.out.size; simp <;> omega)) _)
        · have := HZ.out; simp; omega
      have HB2 : Hid (Below wr.heap.size wr w1) := by
        refine Below.trans ?_ (q1.mono ?_)
        · repeat (first | exact Below.refl _ _ | exact HB.out | refine Below.setCell ?_ (by first | omega | (simp <;> omega) | (have := HB.out.size; simp <;> omega)) _ | refine Below.alloc ?_ (by first | omega | (simp <;> omega) | (have := HB.out.size; simp <;> omega)) _)
        · simp
      have R1 : Hid (Row w1 B 3 k F (.slice (some ⟨g, o, none⟩) k cp)) := RK.out.later HB2.out
      obtain ⟨⟨k0, k1, k2⟩, _⟩ := K0.out.later q1
      have hlt1 := World.block_lt_of_cell? w1 _ k0
      clear q1 K0 HB
      have h0S : (fun x : World => x.cell? ⟨wr.heap.size, 0, none⟩ = some (.int .i64 n0) ∧ Below w1.heap.size w1 x) w1.drew := ⟨k0, Below.drew (Below.refl _ _)⟩
      go_wp2_with fail
      refine wp_region_held_drew (S := fun x : World => x.cell? ⟨wr.heap.size, 0, none⟩ = some (.int .i64 n0) ∧ Below w1.heap.size w1 x) (by kernel_rfl) h0S (fun hS => ?_)
      clear h0S
      refine tkH 0 ?_ hS (fun wx hx => ?_) ?_; rotate_left
      · obtain ⟨hx0, _⟩ := hx; go_simp; try with_reducible rfl
      refine tkH 1 ?_ hS (fun wx hx => ?_) ?_; rotate_left
      · obtain ⟨hx0, _⟩ := hx; go_simp; try with_reducible rfl
      refine tkH 2 ?_ hS (fun wx hx => ?_) ?_; rotate_left
      · obtain ⟨hx0, _⟩ := hx; go_simp; try with_reducible rfl
      refine tkH 3 ?_ hS (fun wx hx => ?_) ?_; rotate_left
      · obtain ⟨hx0, _⟩ := hx; go_simp; try with_reducible rfl
      refine tkH 4 ?_ hS (fun wx hx => ?_) ?_; rotate_left
      · obtain ⟨hx0, _⟩ := hx; go_simp; try with_reducible rfl
      refine rdH 5 (fun K hK => ?_)
      go_simp
      go_wp2_with fail
      refine (keyAmong_is _ B k F n0 false HR.out _ (R1.out.later hS.2) (by omega)).mono ?_
      rintro e w2 ⟨rfl, q2⟩
      go_wp2_with fail
      refine hK.out _ _ ⟨(q2.cell (p := ⟨wr.heap.size, 0, none⟩) (Nat.lt_of_lt_of_le hlt1 hS.2.size)).trans hS.1, hS.2.trans (q2.mono hS.2.size)⟩ (fun hS => ?_)
      clear hK K q2
      refine wpAnyH_done (by kernel_rfl) ?_ _
      have HB3 : Hid (Below w.heap.size w w2) := HB1.out.trans (hS.2.mono HB1.out.size)
      go_simp
      go_wp2
      go_roundw
      case rel => exact ⟨k + 1, by omega, by go_num, E, HB3⟩
      case measure => simp [intOf]; omega
end Go.Proofs.YtdbcmckoiacemaaGreat

namespace Go.Proofs.YtdbcmckoiacemaaGreat
open Go.RowKit

/-- The type that stands for a state. -/
def StT (st : Int) (t : TypeId) : Prop := (st = 1 ∧ t = 260) ∨ (st = 2 ∧ t = 261) ∨ (st = 3 ∧ t = 262) ∨ (st = 4 ∧ t = 263) ∨ (st = 5 ∧ t = 278) ∨ (st = 6 ∧ t = 279) ∨ (st = 7 ∧ t = 280)
theorem StT.get {st : Int} (h : 1 ≤ st ∧ st ≤ 7) : ∃ t, StT st t := by
  have h7 : st = 1 ∨ st = 2 ∨ st = 3 ∨ st = 4 ∨ st = 5 ∨ st = 6 ∨ st = 7 := by omega
  unfold StT
  rcases h7 with h | h | h | h | h | h | h
  · exact ⟨_, Or.inl ⟨h, rfl⟩⟩
  · exact ⟨_, Or.inr (Or.inl ⟨h, rfl⟩)⟩
  · exact ⟨_, Or.inr (Or.inr (Or.inl ⟨h, rfl⟩))⟩
  · exact ⟨_, Or.inr (Or.inr (Or.inr (Or.inl ⟨h, rfl⟩)))⟩
  · exact ⟨_, Or.inr (Or.inr (Or.inr (Or.inr (Or.inl ⟨h, rfl⟩))))⟩
  · exact ⟨_, Or.inr (Or.inr (Or.inr (Or.inr (Or.inr (Or.inl ⟨h, rfl⟩)))))⟩
  · exact ⟨_, Or.inr (Or.inr (Or.inr (Or.inr (Or.inr (Or.inr ⟨h, rfl⟩)))))⟩
set_option maxHeartbeats 1000000 in
theorem stateOf_is (s c u st a : Int) (ao : Option Addr) (n cp : Nat) (t : TypeId) (ht : StT st t) (_ : n ≤ 12) (w : World) :
    Calls Tryz.prog 178 #[.agg #[.int .i64 s, .int .i64 c, .int .i64 u, .int .i64 st, .int .i64 a, .slice ao n cp]] w fun e w' => e = .returned (.iface t (.agg #[.int .i64 n, .int .i64 a])) ∧ Below w.heap.size w w' := by
  rcases ht with ⟨rfl, rfl⟩ | ⟨rfl, rfl⟩ | ⟨rfl, rfl⟩ | ⟨rfl, rfl⟩ | ⟨rfl, rfl⟩ | ⟨rfl, rfl⟩ | ⟨rfl, rfl⟩
  all_goals
    go_enter Tryz.func178, Tryz.ntmps178
    go_wp2
    go_ret
    exact ⟨rfl, (below_alloc _ _).alloc (by simp) _⟩
theorem as_first_first (v : Value) (w : World) : (Instr.typeAssert (.iface 260 v) 255 260 true).run Tryz.prog w = .ok (.tuple #[v, .bool true]) w := by kernel_rfl
theorem as_first_second (v : Value) (w : World) : (Instr.typeAssert (.iface 260 v) 255 261 true).run Tryz.prog w = .ok (.tuple #[.agg #[.int .i64 0, .int .i64 0], .bool false]) w := by kernel_rfl
theorem as_first_rest (v : Value) (w : World) : (Instr.typeAssert (.iface 260 v) 255 262 true).run Tryz.prog w = .ok (.tuple #[.agg #[.int .i64 0, .int .i64 0], .bool false]) w := by kernel_rfl
theorem as_first_done (v : Value) (w : World) : (Instr.typeAssert (.iface 260 v) 255 263 true).run Tryz.prog w = .ok (.tuple #[.agg #[.int .i64 0, .int .i64 0], .bool false]) w := by kernel_rfl
theorem as_second_first (v : Value) (w : World) : (Instr.typeAssert (.iface 261 v) 255 260 true).run Tryz.prog w = .ok (.tuple #[.agg #[.int .i64 0, .int .i64 0], .bool false]) w := by kernel_rfl
theorem as_second_second (v : Value) (w : World) : (Instr.typeAssert (.iface 261 v) 255 261 true).run Tryz.prog w = .ok (.tuple #[v, .bool true]) w := by kernel_rfl
theorem as_second_rest (v : Value) (w : World) : (Instr.typeAssert (.iface 261 v) 255 262 true).run Tryz.prog w = .ok (.tuple #[.agg #[.int .i64 0, .int .i64 0], .bool false]) w := by kernel_rfl
theorem as_second_done (v : Value) (w : World) : (Instr.typeAssert (.iface 261 v) 255 263 true).run Tryz.prog w = .ok (.tuple #[.agg #[.int .i64 0, .int .i64 0], .bool false]) w := by kernel_rfl
theorem as_rest_first (v : Value) (w : World) : (Instr.typeAssert (.iface 262 v) 255 260 true).run Tryz.prog w = .ok (.tuple #[.agg #[.int .i64 0, .int .i64 0], .bool false]) w := by kernel_rfl
theorem as_rest_second (v : Value) (w : World) : (Instr.typeAssert (.iface 262 v) 255 261 true).run Tryz.prog w = .ok (.tuple #[.agg #[.int .i64 0, .int .i64 0], .bool false]) w := by kernel_rfl
theorem as_rest_rest (v : Value) (w : World) : (Instr.typeAssert (.iface 262 v) 255 262 true).run Tryz.prog w = .ok (.tuple #[v, .bool true]) w := by kernel_rfl
theorem as_rest_done (v : Value) (w : World) : (Instr.typeAssert (.iface 262 v) 255 263 true).run Tryz.prog w = .ok (.tuple #[.agg #[.int .i64 0, .int .i64 0], .bool false]) w := by kernel_rfl
theorem as_done_first (v : Value) (w : World) : (Instr.typeAssert (.iface 263 v) 255 260 true).run Tryz.prog w = .ok (.tuple #[.agg #[.int .i64 0, .int .i64 0], .bool false]) w := by kernel_rfl
theorem as_done_second (v : Value) (w : World) : (Instr.typeAssert (.iface 263 v) 255 261 true).run Tryz.prog w = .ok (.tuple #[.agg #[.int .i64 0, .int .i64 0], .bool false]) w := by kernel_rfl
theorem as_done_rest (v : Value) (w : World) : (Instr.typeAssert (.iface 263 v) 255 262 true).run Tryz.prog w = .ok (.tuple #[.agg #[.int .i64 0, .int .i64 0], .bool false]) w := by kernel_rfl
theorem as_done_done (v : Value) (w : World) : (Instr.typeAssert (.iface 263 v) 255 263 true).run Tryz.prog w = .ok (.tuple #[v, .bool true]) w := by kernel_rfl
theorem as_undo_first (v : Value) (w : World) : (Instr.typeAssert (.iface 278 v) 255 260 true).run Tryz.prog w = .ok (.tuple #[.agg #[.int .i64 0, .int .i64 0], .bool false]) w := by kernel_rfl
theorem as_undo_second (v : Value) (w : World) : (Instr.typeAssert (.iface 278 v) 255 261 true).run Tryz.prog w = .ok (.tuple #[.agg #[.int .i64 0, .int .i64 0], .bool false]) w := by kernel_rfl
theorem as_undo_rest (v : Value) (w : World) : (Instr.typeAssert (.iface 278 v) 255 262 true).run Tryz.prog w = .ok (.tuple #[.agg #[.int .i64 0, .int .i64 0], .bool false]) w := by kernel_rfl
theorem as_undo_done (v : Value) (w : World) : (Instr.typeAssert (.iface 278 v) 255 263 true).run Tryz.prog w = .ok (.tuple #[.agg #[.int .i64 0, .int .i64 0], .bool false]) w := by kernel_rfl
theorem as_gone_first (v : Value) (w : World) : (Instr.typeAssert (.iface 279 v) 255 260 true).run Tryz.prog w = .ok (.tuple #[.agg #[.int .i64 0, .int .i64 0], .bool false]) w := by kernel_rfl
theorem as_gone_second (v : Value) (w : World) : (Instr.typeAssert (.iface 279 v) 255 261 true).run Tryz.prog w = .ok (.tuple #[.agg #[.int .i64 0, .int .i64 0], .bool false]) w := by kernel_rfl
theorem as_gone_rest (v : Value) (w : World) : (Instr.typeAssert (.iface 279 v) 255 262 true).run Tryz.prog w = .ok (.tuple #[.agg #[.int .i64 0, .int .i64 0], .bool false]) w := by kernel_rfl
theorem as_gone_done (v : Value) (w : World) : (Instr.typeAssert (.iface 279 v) 255 263 true).run Tryz.prog w = .ok (.tuple #[.agg #[.int .i64 0, .int .i64 0], .bool false]) w := by kernel_rfl
theorem as_left_first (v : Value) (w : World) : (Instr.typeAssert (.iface 280 v) 255 260 true).run Tryz.prog w = .ok (.tuple #[.agg #[.int .i64 0, .int .i64 0], .bool false]) w := by kernel_rfl
theorem as_left_second (v : Value) (w : World) : (Instr.typeAssert (.iface 280 v) 255 261 true).run Tryz.prog w = .ok (.tuple #[.agg #[.int .i64 0, .int .i64 0], .bool false]) w := by kernel_rfl
theorem as_left_rest (v : Value) (w : World) : (Instr.typeAssert (.iface 280 v) 255 262 true).run Tryz.prog w = .ok (.tuple #[.agg #[.int .i64 0, .int .i64 0], .bool false]) w := by kernel_rfl
theorem as_left_done (v : Value) (w : World) : (Instr.typeAssert (.iface 280 v) 255 263 true).run Tryz.prog w = .ok (.tuple #[.agg #[.int .i64 0, .int .i64 0], .bool false]) w := by kernel_rfl
/-- Whether Commit suits the state. -/
def SuitsT (s c st : Int) (r : Bool) : Prop := (st = 1 ∧ r = (c == 0)) ∨ ((st = 2 ∨ st = 3 ∨ st = 4) ∧ r = decide (s < c)) ∨ ((st = 5 ∨ st = 6 ∨ st = 7) ∧ r = true)
set_option maxHeartbeats 1000000 in
theorem commitSuits_is (s c u st a : Int) (ao : Option Addr) (n cp : Nat) (r : Bool) (hr : SuitsT s c st r) (hn : n ≤ 12) (w : World) :
    Calls Tryz.prog 146 #[.agg #[.int .i64 s, .int .i64 c, .int .i64 u, .int .i64 st, .int .i64 a, .slice ao n cp]] w fun e w' => e = .returned (.bool r) ∧ Below w.heap.size w w' := by
  obtain ⟨t, ht⟩ : ∃ t, StT st t := StT.get (by rcases hr with ⟨h, _⟩ | ⟨h, _⟩ | ⟨h, _⟩ <;> omega)
  rcases hr with ⟨rfl, rfl⟩ | ⟨h, rfl⟩ | ⟨h, rfl⟩
  · have HT : Hid (StT _ t) := ht
    clear ht
    go_enter Tryz.func146, Tryz.ntmps146
    go_wp2_with fail
    refine (stateOf_is _ _ _ _ _ _ _ _ t HT.out hn _).mono ?_
    rintro e w1 ⟨rfl, q1⟩
    have Q : Hid (Below w.heap.size w w1) := (below_alloc _ _).trans (q1.mono (by simp))
    obtain ⟨⟨k0, k1, k2, k3, k4, k5⟩, _⟩ := (Blk6.new w (.int .i64 s) (.int .i64 c) (.int .i64 u) (.int .i64 1) (.int .i64 a) (.slice ao n cp) 94).later q1
    clear q1
    obtain rfl : t = 260 := by
      rcases HT.out with h | h | h | h | h | h | h
      · exact h.2
      all_goals omega
    have t0 := as_first_first
    have t1 := as_first_second
    have t2 := as_first_rest
    have t3 := as_first_done
    go_wp2
    go_ret
    exact ⟨rfl, Q.out⟩
  · rcases h with rfl | rfl | rfl
    · have HT : Hid (StT _ t) := ht
      clear ht
      go_enter Tryz.func146, Tryz.ntmps146
      go_wp2_with fail
      refine (stateOf_is _ _ _ _ _ _ _ _ t HT.out hn _).mono ?_
      rintro e w1 ⟨rfl, q1⟩
      have Q : Hid (Below w.heap.size w w1) := (below_alloc _ _).trans (q1.mono (by simp))
      obtain ⟨⟨k0, k1, k2, k3, k4, k5⟩, _⟩ := (Blk6.new w (.int .i64 s) (.int .i64 c) (.int .i64 u) (.int .i64 2) (.int .i64 a) (.slice ao n cp) 94).later q1
      clear q1
      obtain rfl : t = 261 := by
        rcases HT.out with h | h | h | h | h | h | h
        · omega
        · exact h.2
        all_goals omega
      have t0 := as_second_first
      have t1 := as_second_second
      have t2 := as_second_rest
      have t3 := as_second_done
      go_wp2
      go_ret
      exact ⟨rfl, Q.out⟩
    · have HT : Hid (StT _ t) := ht
      clear ht
      go_enter Tryz.func146, Tryz.ntmps146
      go_wp2_with fail
      refine (stateOf_is _ _ _ _ _ _ _ _ t HT.out hn _).mono ?_
      rintro e w1 ⟨rfl, q1⟩
      have Q : Hid (Below w.heap.size w w1) := (below_alloc _ _).trans (q1.mono (by simp))
      obtain ⟨⟨k0, k1, k2, k3, k4, k5⟩, _⟩ := (Blk6.new w (.int .i64 s) (.int .i64 c) (.int .i64 u) (.int .i64 3) (.int .i64 a) (.slice ao n cp) 94).later q1
      clear q1
      obtain rfl : t = 262 := by
        rcases HT.out with h | h | h | h | h | h | h
        · omega
        · omega
        · exact h.2
        all_goals omega
      have t0 := as_rest_first
      have t1 := as_rest_second
      have t2 := as_rest_rest
      have t3 := as_rest_done
      go_wp2
      go_ret
      exact ⟨rfl, Q.out⟩
    · have HT : Hid (StT _ t) := ht
      clear ht
      go_enter Tryz.func146, Tryz.ntmps146
      go_wp2_with fail
      refine (stateOf_is _ _ _ _ _ _ _ _ t HT.out hn _).mono ?_
      rintro e w1 ⟨rfl, q1⟩
      have Q : Hid (Below w.heap.size w w1) := (below_alloc _ _).trans (q1.mono (by simp))
      obtain ⟨⟨k0, k1, k2, k3, k4, k5⟩, _⟩ := (Blk6.new w (.int .i64 s) (.int .i64 c) (.int .i64 u) (.int .i64 4) (.int .i64 a) (.slice ao n cp) 94).later q1
      clear q1
      obtain rfl : t = 263 := by
        rcases HT.out with h | h | h | h | h | h | h
        · omega
        · omega
        · omega
        · exact h.2
        all_goals omega
      have t0 := as_done_first
      have t1 := as_done_second
      have t2 := as_done_rest
      have t3 := as_done_done
      go_wp2
      go_ret
      exact ⟨rfl, Q.out⟩
  · rcases h with rfl | rfl | rfl
    · have HT : Hid (StT _ t) := ht
      clear ht
      go_enter Tryz.func146, Tryz.ntmps146
      go_wp2_with fail
      refine (stateOf_is _ _ _ _ _ _ _ _ t HT.out hn _).mono ?_
      rintro e w1 ⟨rfl, q1⟩
      have Q : Hid (Below w.heap.size w w1) := (below_alloc _ _).trans (q1.mono (by simp))
      obtain ⟨⟨k0, k1, k2, k3, k4, k5⟩, _⟩ := (Blk6.new w (.int .i64 s) (.int .i64 c) (.int .i64 u) (.int .i64 5) (.int .i64 a) (.slice ao n cp) 94).later q1
      clear q1
      obtain rfl : t = 278 := by
        rcases HT.out with h | h | h | h | h | h | h
        · omega
        · omega
        · omega
        · omega
        · exact h.2
        all_goals omega
      have t0 := as_undo_first
      have t1 := as_undo_second
      have t2 := as_undo_rest
      have t3 := as_undo_done
      go_wp2
      go_ret
      exact ⟨rfl, Q.out⟩
    · have HT : Hid (StT _ t) := ht
      clear ht
      go_enter Tryz.func146, Tryz.ntmps146
      go_wp2_with fail
      refine (stateOf_is _ _ _ _ _ _ _ _ t HT.out hn _).mono ?_
      rintro e w1 ⟨rfl, q1⟩
      have Q : Hid (Below w.heap.size w w1) := (below_alloc _ _).trans (q1.mono (by simp))
      obtain ⟨⟨k0, k1, k2, k3, k4, k5⟩, _⟩ := (Blk6.new w (.int .i64 s) (.int .i64 c) (.int .i64 u) (.int .i64 6) (.int .i64 a) (.slice ao n cp) 94).later q1
      clear q1
      obtain rfl : t = 279 := by
        rcases HT.out with h | h | h | h | h | h | h
        · omega
        · omega
        · omega
        · omega
        · omega
        · exact h.2
        · omega
      have t0 := as_gone_first
      have t1 := as_gone_second
      have t2 := as_gone_rest
      have t3 := as_gone_done
      go_wp2
      go_ret
      exact ⟨rfl, Q.out⟩
    · have HT : Hid (StT _ t) := ht
      clear ht
      go_enter Tryz.func146, Tryz.ntmps146
      go_wp2_with fail
      refine (stateOf_is _ _ _ _ _ _ _ _ t HT.out hn _).mono ?_
      rintro e w1 ⟨rfl, q1⟩
      have Q : Hid (Below w.heap.size w w1) := (below_alloc _ _).trans (q1.mono (by simp))
      obtain ⟨⟨k0, k1, k2, k3, k4, k5⟩, _⟩ := (Blk6.new w (.int .i64 s) (.int .i64 c) (.int .i64 u) (.int .i64 7) (.int .i64 a) (.slice ao n cp) 94).later q1
      clear q1
      obtain rfl : t = 280 := by
        rcases HT.out with h | h | h | h | h | h | h
        · omega
        · omega
        · omega
        · omega
        · omega
        · omega
        · exact h.2
      have t0 := as_left_first
      have t1 := as_left_second
      have t2 := as_left_rest
      have t3 := as_left_done
      go_wp2
      go_ret
      exact ⟨rfl, Q.out⟩
end Go.Proofs.YtdbcmckoiacemaaGreat

namespace Go.Proofs.YtdbcmckoiacemaaGreat
open Go.RowKit

theorem SuitsT.get {s c st : Int} (h : 1 ≤ st ∧ st ≤ 7) : ∃ r, SuitsT s c st r := by
  have h7 : st = 1 ∨ (st = 2 ∨ st = 3 ∨ st = 4) ∨ (st = 5 ∨ st = 6 ∨ st = 7) := by omega
  rcases h7 with h | h | h
  · exact ⟨_, Or.inl ⟨h, rfl⟩⟩
  · exact ⟨_, Or.inr (Or.inl ⟨h, rfl⟩)⟩
  · exact ⟨_, Or.inr (Or.inr ⟨h, rfl⟩)⟩
theorem SuitsT.no {s c st : Int} (h : SuitsT s c st false) : (st = 2 ∨ st = 3 ∨ st = 4) ∧ c ≤ s ∨ st = 1 ∧ c ≠ 0 := by
  rcases h with ⟨h, e⟩ | ⟨h, e⟩ | ⟨h, e⟩
  · exact Or.inr ⟨h, beq_eq_false_iff_ne.1 e.symm⟩
  · exact Or.inl ⟨h, by have := of_decide_eq_false e.symm; omega⟩
  · cases e
theorem SuitsT.yes {s c st : Int} (h : SuitsT s c st true) : ¬ ((st = 2 ∨ st = 3 ∨ st = 4) ∧ c ≤ s ∨ st = 1 ∧ c ≠ 0) := by
  rcases h with ⟨h, e⟩ | ⟨h, e⟩ | ⟨h, e⟩
  · have := eq_of_beq e.symm; omega
  · have := of_decide_eq_true e.symm; omega
  · omega
set_option maxRecDepth 100000 in
set_option maxHeartbeats 4000000 in
theorem implTxnFault_none (s u st a : Int) (n : Nat) (F : Nat → Int) (y : Value) (w : World) (h : Row w 0 3 n F y) (hcap : CapOk y) :
    Calls Tryz.prog 98 #[.agg #[.int .i64 s, .int .i64 0, .int .i64 u, .int .i64 st, .int .i64 a, y]] w fun e w' => e = .returned (.int .i64 (txnF s 0 u st a n F)) ∧ Below w.heap.size w w' := by
  obtain ⟨ao, cp, rfl⟩ := h.form
  have H : Hid (Row w 0 3 n F (.slice ao n cp)) := h
  clear h
  by_cases h0 : 1 ≤ s ∧ s ≤ 100000
  case neg =>
    have D0 : Hid (decide (1 ≤ s ∧ s ≤ 100000) = false) := decide_eq_false h0
    have E : Hid (txnF s 0 u st a n F = 3) := txnF_range (Or.inl h0)
    clear h0
    go_enter Tryz.func98, Tryz.ntmps98
    go_wp2_with fail
    refine (isTimeT_is _ _ D0.out _).mono ?_
    rintro e w9 ⟨rfl, hw9⟩
    obtain rfl := hw9.symm
    go_wp2
    go_ret
    exact ⟨by rw [E.out]; rfl, below_alloc _ _⟩
  have D0 : Hid (decide (1 ≤ s ∧ s ≤ 100000) = true) := decide_eq_true h0
  by_cases h2 : 0 ≤ u ∧ u ≤ 100000
  case neg =>
    have D2 : Hid (decide (0 ≤ u ∧ u ≤ 100000) = false) := decide_eq_false h2
    have E : Hid (txnF s 0 u st a n F = 3) := txnF_range (Or.inr (Or.inr (Or.inl h2)))
    clear h0 h2
    go_enter Tryz.func98, Tryz.ntmps98
    go_wp2_with fail
    refine (isTimeT_is _ _ D0.out _).mono ?_
    rintro e w9 ⟨rfl, hw9⟩
    obtain rfl := hw9.symm
    go_wp2_with fail
    refine (isUntilT_is _ _ D2.out _).mono ?_
    rintro e w9 ⟨rfl, hw9⟩
    obtain rfl := hw9.symm
    go_wp2
    go_ret
    exact ⟨by rw [E.out]; rfl, below_alloc _ _⟩
  have D2 : Hid (decide (0 ≤ u ∧ u ≤ 100000) = true) := decide_eq_true h2
  by_cases h3 : 1 ≤ st ∧ st ≤ 7
  case neg =>
    have E : Hid (txnF s 0 u st a n F = 3) := txnF_range (Or.inr (Or.inr (Or.inr h3)))
    by_cases h4 : st < 1
    focus
      have d : decide (st < 1) = true := decide_eq_true h4
    rotate_left
    focus
      have d : decide (st < 1) = false := decide_eq_false h4
      have d7 : decide (7 < st) = true := decide_eq_true (by omega)
    rotate_left
    all_goals
      clear h0 h2 h3 h4
      go_enter Tryz.func98, Tryz.ntmps98
      go_wp2_with fail
      refine (isTimeT_is _ _ D0.out _).mono ?_
      rintro e w9 ⟨rfl, hw9⟩
      obtain rfl := hw9.symm
      go_wp2_with fail
      refine (isUntilT_is _ _ D2.out _).mono ?_
      rintro e w9 ⟨rfl, hw9⟩
      obtain rfl := hw9.symm
      go_wp2
      go_ret
      exact ⟨by rw [E.out]; rfl, below_alloc _ _⟩
  have d : decide (st < 1) = false := decide_eq_false (by omega)
  have d7 : decide (7 < st) = false := decide_eq_false (by omega)
  have HI : Hid (InB s 0 u st) := ⟨h0, ⟨by omega, by omega⟩, h2, h3⟩
  clear h0 h2
  by_cases hm : n < 1 ∨ 12 < n
  · have E : Hid (txnF s 0 u st a n F = 2) := txnF_many HI.out hm
    clear h3
    by_cases hm1 : n < 1
    · obtain rfl : n = 0 := by omega
      clear hm hm1
      go_enter Tryz.func98, Tryz.ntmps98
      go_wp2_with fail
      refine (isTimeT_is _ _ D0.out _).mono ?_
      rintro e w9 ⟨rfl, hw9⟩
      obtain rfl := hw9.symm
      go_wp2_with fail
      refine (isUntilT_is _ _ D2.out _).mono ?_
      rintro e w9 ⟨rfl, hw9⟩
      obtain rfl := hw9.symm
      go_wp2
      go_ret
      exact ⟨by rw [E.out]; rfl, below_alloc _ _⟩
    · have e1 : decide ((n : Int) < 1) = false := decide_eq_false (by omega)
      have e2 : decide ((12 : Int) < (n : Int)) = true := decide_eq_true (by omega)
      clear hm hm1
      go_enter Tryz.func98, Tryz.ntmps98
      go_wp2_with fail
      refine (isTimeT_is _ _ D0.out _).mono ?_
      rintro e w9 ⟨rfl, hw9⟩
      obtain rfl := hw9.symm
      go_wp2_with fail
      refine (isUntilT_is _ _ D2.out _).mono ?_
      rintro e w9 ⟨rfl, hw9⟩
      obtain rfl := hw9.symm
      go_wp2
      go_ret
      exact ⟨by rw [E.out]; rfl, below_alloc _ _⟩
  have HM : Hid (¬ (n < 1 ∨ 12 < n)) := hm
  have e1 : decide ((n : Int) < 1) = false := decide_eq_false (by omega)
  have e2 : decide ((12 : Int) < (n : Int)) = false := decide_eq_false (by omega)
  have hn12 : n ≤ 12 := by omega
  clear hm
  obtain ⟨f, hf⟩ : ∃ f, itemsF F n 0 = f := ⟨_, rfl⟩
  have HF : Hid (itemsF F n 0 = f) := hf
  clear hf
  by_cases hf : f = 0
  case neg =>
    have E : Hid (txnF s 0 u st a n F = f) := txnF_item HI.out HM.out HF.out hf
    have df : (f != 0) = true := bne_iff_ne.2 hf
    clear hf h3
    go_enter Tryz.func98, Tryz.ntmps98
    go_wp2_with fail
    refine (isTimeT_is _ _ D0.out _).mono ?_
    rintro e w9 ⟨rfl, hw9⟩
    obtain rfl := hw9.symm
    go_wp2_with fail
    refine (isUntilT_is _ _ D2.out _).mono ?_
    rintro e w9 ⟨rfl, hw9⟩
    obtain rfl := hw9.symm
    go_wp2_with fail
    refine (itemsFault_is _ 0 n F _ (H.out.alloc _) hcap hn12).mono ?_
    rintro e w1 ⟨rfl, q1⟩
    rw [HF.out]
    have Q : Hid (Below w.heap.size w w1) := (below_alloc _ _).trans (q1.mono (by simp))
    obtain ⟨⟨k0, k1, k2, k3, k4, k5⟩, _⟩ := (Blk6.new w (.int .i64 s) (.int .i64 0) (.int .i64 u) (.int .i64 st) (.int .i64 a) (.slice ao n cp) 94).later q1
    clear q1
    go_wp2
    go_ret
    exact ⟨by rw [E.out]; rfl, Q.out⟩
  subst hf
  by_cases ha : 0 ≤ a ∧ a ≤ n
  case neg =>
    have E : Hid (txnF s 0 u st a n F = 3) := txnF_at HI.out HM.out HF.out ha
    by_cases ha0 : a < 0
    focus
      have da : decide (a < 0) = true := decide_eq_true ha0
    rotate_left
    focus
      have da : decide (a < 0) = false := decide_eq_false ha0
      have db : decide ((n : Int) < a) = true := decide_eq_true (by omega)
    rotate_left
    all_goals
      clear ha ha0 h3
      go_enter Tryz.func98, Tryz.ntmps98
      go_wp2_with fail
      refine (isTimeT_is _ _ D0.out _).mono ?_
      rintro e w9 ⟨rfl, hw9⟩
      obtain rfl := hw9.symm
      go_wp2_with fail
      refine (isUntilT_is _ _ D2.out _).mono ?_
      rintro e w9 ⟨rfl, hw9⟩
      obtain rfl := hw9.symm
      go_wp2_with fail
      refine (itemsFault_is _ 0 n F _ (H.out.alloc _) hcap hn12).mono ?_
      rintro e w1 ⟨rfl, q1⟩
      rw [HF.out]
      have Q : Hid (Below w.heap.size w w1) := (below_alloc _ _).trans (q1.mono (by simp))
      obtain ⟨⟨k0, k1, k2, k3, k4, k5⟩, _⟩ := (Blk6.new w (.int .i64 s) (.int .i64 0) (.int .i64 u) (.int .i64 st) (.int .i64 a) (.slice ao n cp) 94).later q1
      clear q1
      go_wp2
      go_ret
      exact ⟨by rw [E.out]; rfl, Q.out⟩
  have da : decide (a < 0) = false := decide_eq_false (by omega)
  have db : decide ((n : Int) < a) = false := decide_eq_false (by omega)
  obtain ⟨r, hr⟩ : ∃ r, SuitsT s 0 st r := SuitsT.get h3
  have HR : Hid (SuitsT s 0 st r) := hr
  have HA : Hid (0 ≤ a ∧ a ≤ n) := ha
  clear ha h3 hr
  cases r with
  | false =>
    have E : Hid (txnF s 0 u st a n F = 1) := txnF_form HI.out HM.out HF.out HA.out HR.out.no
    go_enter Tryz.func98, Tryz.ntmps98
    go_wp2_with fail
    refine (isTimeT_is _ _ D0.out _).mono ?_
    rintro e w9 ⟨rfl, hw9⟩
    obtain rfl := hw9.symm
    go_wp2_with fail
    refine (isUntilT_is _ _ D2.out _).mono ?_
    rintro e w9 ⟨rfl, hw9⟩
    obtain rfl := hw9.symm
    go_wp2_with fail
    refine (itemsFault_is _ 0 n F _ (H.out.alloc _) hcap hn12).mono ?_
    rintro e w1 ⟨rfl, q1⟩
    rw [HF.out]
    have Q : Hid (Below w.heap.size w w1) := (below_alloc _ _).trans (q1.mono (by simp))
    obtain ⟨⟨k0, k1, k2, k3, k4, k5⟩, _⟩ := (Blk6.new w (.int .i64 s) (.int .i64 0) (.int .i64 u) (.int .i64 st) (.int .i64 a) (.slice ao n cp) 94).later q1
    clear q1
    go_wp2_with fail
    refine (commitSuits_is s 0 u st a ao n cp _ HR.out hn12 _).mono ?_
    rintro e w2 ⟨rfl, q2⟩
    have Q : Hid (Below w.heap.size w w2) := Q.out.trans (q2.mono Q.out.size)
    clear q2
    go_wp2
    go_ret
    exact ⟨by rw [E.out]; rfl, Q.out⟩
  | true =>
    have E : Hid (txnF s 0 u st a n F = 0) := txnF_ok HI.out HM.out HF.out HA.out HR.out.yes
    go_enter Tryz.func98, Tryz.ntmps98
    go_wp2_with fail
    refine (isTimeT_is _ _ D0.out _).mono ?_
    rintro e w9 ⟨rfl, hw9⟩
    obtain rfl := hw9.symm
    go_wp2_with fail
    refine (isUntilT_is _ _ D2.out _).mono ?_
    rintro e w9 ⟨rfl, hw9⟩
    obtain rfl := hw9.symm
    go_wp2_with fail
    refine (itemsFault_is _ 0 n F _ (H.out.alloc _) hcap hn12).mono ?_
    rintro e w1 ⟨rfl, q1⟩
    rw [HF.out]
    have Q : Hid (Below w.heap.size w w1) := (below_alloc _ _).trans (q1.mono (by simp))
    obtain ⟨⟨k0, k1, k2, k3, k4, k5⟩, _⟩ := (Blk6.new w (.int .i64 s) (.int .i64 0) (.int .i64 u) (.int .i64 st) (.int .i64 a) (.slice ao n cp) 94).later q1
    clear q1
    go_wp2_with fail
    refine (commitSuits_is s 0 u st a ao n cp _ HR.out hn12 _).mono ?_
    rintro e w2 ⟨rfl, q2⟩
    have Q : Hid (Below w.heap.size w w2) := Q.out.trans (q2.mono Q.out.size)
    clear q2
    go_wp2
    go_ret
    exact ⟨by rw [E.out]; rfl, Q.out⟩
set_option maxRecDepth 100000 in
set_option maxHeartbeats 4000000 in
theorem implTxnFault_some (s c u st a : Int) (n : Nat) (F : Nat → Int) (y : Value) (w : World) (h : Row w 0 3 n F y) (hcap : CapOk y) (hc0 : c ≠ 0) (h1 : 0 ≤ c ∧ c ≤ 100000) :
    Calls Tryz.prog 98 #[.agg #[.int .i64 s, .int .i64 c, .int .i64 u, .int .i64 st, .int .i64 a, y]] w fun e w' => e = .returned (.int .i64 (txnF s c u st a n F)) ∧ Below w.heap.size w w' := by
  obtain ⟨ao, cp, rfl⟩ := h.form
  have H : Hid (Row w 0 3 n F (.slice ao n cp)) := h
  clear h
  have dc : (c != 0) = true := bne_iff_ne.2 hc0
  have DC : Hid (decide (1 ≤ c ∧ c ≤ 100000) = true) := decide_eq_true (by omega)
  by_cases h0 : 1 ≤ s ∧ s ≤ 100000
  case neg =>
    have D0 : Hid (decide (1 ≤ s ∧ s ≤ 100000) = false) := decide_eq_false h0
    have E : Hid (txnF s c u st a n F = 3) := txnF_range (Or.inl h0)
    clear h0
    go_enter Tryz.func98, Tryz.ntmps98
    go_wp2_with fail
    refine (isTimeT_is _ _ DC.out _).mono ?_
    rintro e w9 ⟨rfl, hw9⟩
    obtain rfl := hw9.symm
    go_wp2_with fail
    refine (isTimeT_is _ _ D0.out _).mono ?_
    rintro e w9 ⟨rfl, hw9⟩
    obtain rfl := hw9.symm
    go_wp2
    go_ret
    exact ⟨by rw [E.out]; rfl, below_alloc _ _⟩
  have D0 : Hid (decide (1 ≤ s ∧ s ≤ 100000) = true) := decide_eq_true h0
  by_cases h2 : 0 ≤ u ∧ u ≤ 100000
  case neg =>
    have D2 : Hid (decide (0 ≤ u ∧ u ≤ 100000) = false) := decide_eq_false h2
    have E : Hid (txnF s c u st a n F = 3) := txnF_range (Or.inr (Or.inr (Or.inl h2)))
    clear h0 h2
    go_enter Tryz.func98, Tryz.ntmps98
    go_wp2_with fail
    refine (isTimeT_is _ _ DC.out _).mono ?_
    rintro e w9 ⟨rfl, hw9⟩
    obtain rfl := hw9.symm
    go_wp2_with fail
    refine (isTimeT_is _ _ D0.out _).mono ?_
    rintro e w9 ⟨rfl, hw9⟩
    obtain rfl := hw9.symm
    go_wp2_with fail
    refine (isUntilT_is _ _ D2.out _).mono ?_
    rintro e w9 ⟨rfl, hw9⟩
    obtain rfl := hw9.symm
    go_wp2
    go_ret
    exact ⟨by rw [E.out]; rfl, below_alloc _ _⟩
  have D2 : Hid (decide (0 ≤ u ∧ u ≤ 100000) = true) := decide_eq_true h2
  by_cases h3 : 1 ≤ st ∧ st ≤ 7
  case neg =>
    have E : Hid (txnF s c u st a n F = 3) := txnF_range (Or.inr (Or.inr (Or.inr h3)))
    by_cases h4 : st < 1
    focus
      have d : decide (st < 1) = true := decide_eq_true h4
    rotate_left
    focus
      have d : decide (st < 1) = false := decide_eq_false h4
      have d7 : decide (7 < st) = true := decide_eq_true (by omega)
    rotate_left
    all_goals
      clear h0 h2 h3 h4
      go_enter Tryz.func98, Tryz.ntmps98
      go_wp2_with fail
      refine (isTimeT_is _ _ DC.out _).mono ?_
      rintro e w9 ⟨rfl, hw9⟩
      obtain rfl := hw9.symm
      go_wp2_with fail
      refine (isTimeT_is _ _ D0.out _).mono ?_
      rintro e w9 ⟨rfl, hw9⟩
      obtain rfl := hw9.symm
      go_wp2_with fail
      refine (isUntilT_is _ _ D2.out _).mono ?_
      rintro e w9 ⟨rfl, hw9⟩
      obtain rfl := hw9.symm
      go_wp2
      go_ret
      exact ⟨by rw [E.out]; rfl, below_alloc _ _⟩
  have d : decide (st < 1) = false := decide_eq_false (by omega)
  have d7 : decide (7 < st) = false := decide_eq_false (by omega)
  have HI : Hid (InB s c u st) := ⟨h0, h1, h2, h3⟩
  clear h0 h2
  by_cases hm : n < 1 ∨ 12 < n
  · have E : Hid (txnF s c u st a n F = 2) := txnF_many HI.out hm
    clear h3
    by_cases hm1 : n < 1
    · obtain rfl : n = 0 := by omega
      clear hm hm1
      go_enter Tryz.func98, Tryz.ntmps98
      go_wp2_with fail
      refine (isTimeT_is _ _ DC.out _).mono ?_
      rintro e w9 ⟨rfl, hw9⟩
      obtain rfl := hw9.symm
      go_wp2_with fail
      refine (isTimeT_is _ _ D0.out _).mono ?_
      rintro e w9 ⟨rfl, hw9⟩
      obtain rfl := hw9.symm
      go_wp2_with fail
      refine (isUntilT_is _ _ D2.out _).mono ?_
      rintro e w9 ⟨rfl, hw9⟩
      obtain rfl := hw9.symm
      go_wp2
      go_ret
      exact ⟨by rw [E.out]; rfl, below_alloc _ _⟩
    · have e1 : decide ((n : Int) < 1) = false := decide_eq_false (by omega)
      have e2 : decide ((12 : Int) < (n : Int)) = true := decide_eq_true (by omega)
      clear hm hm1
      go_enter Tryz.func98, Tryz.ntmps98
      go_wp2_with fail
      refine (isTimeT_is _ _ DC.out _).mono ?_
      rintro e w9 ⟨rfl, hw9⟩
      obtain rfl := hw9.symm
      go_wp2_with fail
      refine (isTimeT_is _ _ D0.out _).mono ?_
      rintro e w9 ⟨rfl, hw9⟩
      obtain rfl := hw9.symm
      go_wp2_with fail
      refine (isUntilT_is _ _ D2.out _).mono ?_
      rintro e w9 ⟨rfl, hw9⟩
      obtain rfl := hw9.symm
      go_wp2
      go_ret
      exact ⟨by rw [E.out]; rfl, below_alloc _ _⟩
  have HM : Hid (¬ (n < 1 ∨ 12 < n)) := hm
  have e1 : decide ((n : Int) < 1) = false := decide_eq_false (by omega)
  have e2 : decide ((12 : Int) < (n : Int)) = false := decide_eq_false (by omega)
  have hn12 : n ≤ 12 := by omega
  clear hm
  obtain ⟨f, hf⟩ : ∃ f, itemsF F n 0 = f := ⟨_, rfl⟩
  have HF : Hid (itemsF F n 0 = f) := hf
  clear hf
  by_cases hf : f = 0
  case neg =>
    have E : Hid (txnF s c u st a n F = f) := txnF_item HI.out HM.out HF.out hf
    have df : (f != 0) = true := bne_iff_ne.2 hf
    clear hf h3
    go_enter Tryz.func98, Tryz.ntmps98
    go_wp2_with fail
    refine (isTimeT_is _ _ DC.out _).mono ?_
    rintro e w9 ⟨rfl, hw9⟩
    obtain rfl := hw9.symm
    go_wp2_with fail
    refine (isTimeT_is _ _ D0.out _).mono ?_
    rintro e w9 ⟨rfl, hw9⟩
    obtain rfl := hw9.symm
    go_wp2_with fail
    refine (isUntilT_is _ _ D2.out _).mono ?_
    rintro e w9 ⟨rfl, hw9⟩
    obtain rfl := hw9.symm
    go_wp2_with fail
    refine (itemsFault_is _ 0 n F _ (H.out.alloc _) hcap hn12).mono ?_
    rintro e w1 ⟨rfl, q1⟩
    rw [HF.out]
    have Q : Hid (Below w.heap.size w w1) := (below_alloc _ _).trans (q1.mono (by simp))
    obtain ⟨⟨k0, k1, k2, k3, k4, k5⟩, _⟩ := (Blk6.new w (.int .i64 s) (.int .i64 c) (.int .i64 u) (.int .i64 st) (.int .i64 a) (.slice ao n cp) 94).later q1
    clear q1
    go_wp2
    go_ret
    exact ⟨by rw [E.out]; rfl, Q.out⟩
  subst hf
  by_cases ha : 0 ≤ a ∧ a ≤ n
  case neg =>
    have E : Hid (txnF s c u st a n F = 3) := txnF_at HI.out HM.out HF.out ha
    by_cases ha0 : a < 0
    focus
      have da : decide (a < 0) = true := decide_eq_true ha0
    rotate_left
    focus
      have da : decide (a < 0) = false := decide_eq_false ha0
      have db : decide ((n : Int) < a) = true := decide_eq_true (by omega)
    rotate_left
    all_goals
      clear ha ha0 h3
      go_enter Tryz.func98, Tryz.ntmps98
      go_wp2_with fail
      refine (isTimeT_is _ _ DC.out _).mono ?_
      rintro e w9 ⟨rfl, hw9⟩
      obtain rfl := hw9.symm
      go_wp2_with fail
      refine (isTimeT_is _ _ D0.out _).mono ?_
      rintro e w9 ⟨rfl, hw9⟩
      obtain rfl := hw9.symm
      go_wp2_with fail
      refine (isUntilT_is _ _ D2.out _).mono ?_
      rintro e w9 ⟨rfl, hw9⟩
      obtain rfl := hw9.symm
      go_wp2_with fail
      refine (itemsFault_is _ 0 n F _ (H.out.alloc _) hcap hn12).mono ?_
      rintro e w1 ⟨rfl, q1⟩
      rw [HF.out]
      have Q : Hid (Below w.heap.size w w1) := (below_alloc _ _).trans (q1.mono (by simp))
      obtain ⟨⟨k0, k1, k2, k3, k4, k5⟩, _⟩ := (Blk6.new w (.int .i64 s) (.int .i64 c) (.int .i64 u) (.int .i64 st) (.int .i64 a) (.slice ao n cp) 94).later q1
      clear q1
      go_wp2
      go_ret
      exact ⟨by rw [E.out]; rfl, Q.out⟩
  have da : decide (a < 0) = false := decide_eq_false (by omega)
  have db : decide ((n : Int) < a) = false := decide_eq_false (by omega)
  obtain ⟨r, hr⟩ : ∃ r, SuitsT s c st r := SuitsT.get h3
  have HR : Hid (SuitsT s c st r) := hr
  have HA : Hid (0 ≤ a ∧ a ≤ n) := ha
  clear ha h3 hr
  cases r with
  | false =>
    have E : Hid (txnF s c u st a n F = 1) := txnF_form HI.out HM.out HF.out HA.out HR.out.no
    go_enter Tryz.func98, Tryz.ntmps98
    go_wp2_with fail
    refine (isTimeT_is _ _ DC.out _).mono ?_
    rintro e w9 ⟨rfl, hw9⟩
    obtain rfl := hw9.symm
    go_wp2_with fail
    refine (isTimeT_is _ _ D0.out _).mono ?_
    rintro e w9 ⟨rfl, hw9⟩
    obtain rfl := hw9.symm
    go_wp2_with fail
    refine (isUntilT_is _ _ D2.out _).mono ?_
    rintro e w9 ⟨rfl, hw9⟩
    obtain rfl := hw9.symm
    go_wp2_with fail
    refine (itemsFault_is _ 0 n F _ (H.out.alloc _) hcap hn12).mono ?_
    rintro e w1 ⟨rfl, q1⟩
    rw [HF.out]
    have Q : Hid (Below w.heap.size w w1) := (below_alloc _ _).trans (q1.mono (by simp))
    obtain ⟨⟨k0, k1, k2, k3, k4, k5⟩, _⟩ := (Blk6.new w (.int .i64 s) (.int .i64 c) (.int .i64 u) (.int .i64 st) (.int .i64 a) (.slice ao n cp) 94).later q1
    clear q1
    go_wp2_with fail
    refine (commitSuits_is s c u st a ao n cp _ HR.out hn12 _).mono ?_
    rintro e w2 ⟨rfl, q2⟩
    have Q : Hid (Below w.heap.size w w2) := Q.out.trans (q2.mono Q.out.size)
    clear q2
    go_wp2
    go_ret
    exact ⟨by rw [E.out]; rfl, Q.out⟩
  | true =>
    have E : Hid (txnF s c u st a n F = 0) := txnF_ok HI.out HM.out HF.out HA.out HR.out.yes
    go_enter Tryz.func98, Tryz.ntmps98
    go_wp2_with fail
    refine (isTimeT_is _ _ DC.out _).mono ?_
    rintro e w9 ⟨rfl, hw9⟩
    obtain rfl := hw9.symm
    go_wp2_with fail
    refine (isTimeT_is _ _ D0.out _).mono ?_
    rintro e w9 ⟨rfl, hw9⟩
    obtain rfl := hw9.symm
    go_wp2_with fail
    refine (isUntilT_is _ _ D2.out _).mono ?_
    rintro e w9 ⟨rfl, hw9⟩
    obtain rfl := hw9.symm
    go_wp2_with fail
    refine (itemsFault_is _ 0 n F _ (H.out.alloc _) hcap hn12).mono ?_
    rintro e w1 ⟨rfl, q1⟩
    rw [HF.out]
    have Q : Hid (Below w.heap.size w w1) := (below_alloc _ _).trans (q1.mono (by simp))
    obtain ⟨⟨k0, k1, k2, k3, k4, k5⟩, _⟩ := (Blk6.new w (.int .i64 s) (.int .i64 c) (.int .i64 u) (.int .i64 st) (.int .i64 a) (.slice ao n cp) 94).later q1
    clear q1
    go_wp2_with fail
    refine (commitSuits_is s c u st a ao n cp _ HR.out hn12 _).mono ?_
    rintro e w2 ⟨rfl, q2⟩
    have Q : Hid (Below w.heap.size w w2) := Q.out.trans (q2.mono Q.out.size)
    clear q2
    go_wp2
    go_ret
    exact ⟨by rw [E.out]; rfl, Q.out⟩
set_option maxHeartbeats 1000000 in
theorem implTxnFault_any (s c u st a : Int) (n : Nat) (F : Nat → Int) (y : Value) (w : World) (h : Row w 0 3 n F y) (hcap : CapOk y) :
    Calls Tryz.prog 98 #[.agg #[.int .i64 s, .int .i64 c, .int .i64 u, .int .i64 st, .int .i64 a, y]] w fun e w' => e = .returned (.int .i64 (txnF s c u st a n F)) ∧ Below w.heap.size w w' := by
  by_cases hc : c = 0
  · subst hc
    exact implTxnFault_none s u st a n F y w h hcap
  by_cases h1 : 0 ≤ c ∧ c ≤ 100000
  · exact implTxnFault_some s c u st a n F y w h hcap hc h1
  obtain ⟨ao, cp, rfl⟩ := h.form
  have dc : (c != 0) = true := bne_iff_ne.2 hc
  have DC : Hid (decide (1 ≤ c ∧ c ≤ 100000) = false) := decide_eq_false (by omega)
  have E : Hid (txnF s c u st a n F = 3) := txnF_range (Or.inr (Or.inl h1))
  clear h hcap
  obtain ⟨r, hr⟩ : ∃ r, decide (1 ≤ s ∧ s ≤ 100000) = r := ⟨_, rfl⟩
  have D0 : Hid (decide (1 ≤ s ∧ s ≤ 100000) = r) := hr
  clear hr hc h1
  cases r with
  | false =>
    go_enter Tryz.func98, Tryz.ntmps98
    go_wp2_with fail
    refine (isTimeT_is _ _ DC.out _).mono ?_
    rintro e w9 ⟨rfl, hw9⟩
    obtain rfl := hw9.symm
    go_wp2_with fail
    refine (isTimeT_is _ _ D0.out _).mono ?_
    rintro e w9 ⟨rfl, hw9⟩
    obtain rfl := hw9.symm
    go_wp2
    go_ret
    exact ⟨by rw [E.out]; rfl, below_alloc _ _⟩
  | true =>
    go_enter Tryz.func98, Tryz.ntmps98
    go_wp2_with fail
    refine (isTimeT_is _ _ DC.out _).mono ?_
    rintro e w9 ⟨rfl, hw9⟩
    obtain rfl := hw9.symm
    go_wp2_with fail
    refine (isTimeT_is _ _ D0.out _).mono ?_
    rintro e w9 ⟨rfl, hw9⟩
    obtain rfl := hw9.symm
    go_wp2
    go_ret
    exact ⟨by rw [E.out]; rfl, below_alloc _ _⟩
end Go.Proofs.YtdbcmckoiacemaaGreat

