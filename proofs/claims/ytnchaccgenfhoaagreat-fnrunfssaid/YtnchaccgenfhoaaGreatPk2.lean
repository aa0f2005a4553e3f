/-
  Own text, merged of InsV, InsP, DelP, PaiA, PaiB, PaiC, PaiD, PaiE, PaiF, PaiG, PaiH, FsH.
-/
import Derived.Test.YtnchaccgenfhoaaGreatPk1
namespace Go.Proofs.YtnchaccgenfhoaaGreat
section
open Go.RowKit Go.Lib
/-- 'copy(d, s)' at slices of structs of m cells: what s held goes over. -/
theorem run_copyM (w : World) (dT sT ty elem : TypeId) (m b o dLen dCap : Nat) (a : Addr) (sLen sCap : Nat) (cs : List Value)
    (hu : Tryz.prog.underlying dT = some (.slice elem)) (hs : (Tryz.prog.info? elem).map (·.size) = some m) (hn : cs.length = Nat.min sLen dLen * m)
    (hsrc : ∀ j v, cs[j]? = some v → w.cell? (a.add j) = some v) (hc : ∀ j, j < cs.length → (w.cell? ⟨b, o + j, none⟩).isSome = true) (hf : ∀ j, j < cs.length → w.frozen? ⟨b, o + j, none⟩ = false) (h1 : ∀ v ∈ cs, v.oneCell' = true) :
    (Builtin.copy_ #[dT, sT] ty #[.slice (some ⟨b, o, none⟩) dLen dCap, .slice (some a) sLen sCap]).run Tryz.prog w = .ok (goInt (Nat.min sLen dLen)) (w.setCells b o cs) := by
  have hl := run_loadCells_list (P := Tryz.prog) w a cs hsrc
  have hst := run_storeCells_cells (P := Tryz.prog) b o cs 0 w (by simpa using hc) (by simpa using hf) h1
  cases hq : Tryz.prog.info? elem with
  | none => simp [hq] at hs
  | some i =>
    have hi : i.size = m := by simpa [hq] using hs
    simp [Builtin.copy_, run_underlying hu, Builtin.lenOf, Builtin.firstCells, sizeOf, typeInfo, hq, hi, ← hn, hl, hst]
theorem wpList_appM (w : World) {ops : Array Oper} {rest : List Oper} {o : Oper} {a : Act} {Q : Exit → Act → World → Prop} (hgd : o.guard = none) (d s : Operand) (t t' : TypeId)
    (ho : o.op = .call { callee := .builtin .append, args := #[d, s], argTypes := #[t, t'] }) (v u : Value) (hd : a.eval d = v) (hs : a.eval s = u) {v' : Value} {w' : World}
    (hr : (Builtin.append_ #[t, t'] o.type #[v, u]).run Tryz.prog w = .ok v' w') (h : wpList Tryz.prog ops Q rest (a.put o.dst v') w') : wpList Tryz.prog ops Q (o :: rest) a w := by
  refine wpList_plain hgd fun K hK => ?_
  unfold Oper.wp execOp
  simp only [ho, resolve, invoke, builtin, Sem.run_bind, Sem.run_pure, Result.andThen_ok, List.map_toArray, List.map_cons, List.map_nil, hd, hs, hr]
  exact hK _ _ h
theorem step_copyM {ops : Array Oper} {o : Oper} {a : Act} {w : World} {K : Act → World → Prop} {Q : Exit → Act → World → Prop} {E : Prop}
    (hg : o.guard = none) (d x : Operand) (dT sT : TypeId) (hop : o.op = Op.call { callee := Callee.builtin Builtin.copy, args := #[d, x], argTypes := #[dT, sT] })
    (v u : Value) (hd : a.eval d = v) (hx : a.eval x = u) {v' : Value} {w' : World} (hr : (Builtin.copy_ #[dT, sT] o.type #[v, u]).run Tryz.prog w = .ok v' w') (hK : K (a.put o.dst v') w') :
    if Region.wanted o (yielded ops a.tmps) = true then Oper.wp Tryz.prog o a w K Q else E := by
  have hw : Region.wanted o (yielded ops a.tmps) = true := by simp [Region.wanted, hg]
  rw [if_pos hw]
  unfold Oper.wp
  simp [execOp, hop, resolve, invoke, builtin, hd, hx, hr, Result.andThen]
  exact hK
theorem grown_drew (w : World) (r : Option Nat) : w.grownBy w.drew r := ⟨rfl, rfl, rfl, Nat.le_refl _, fun _ _ _ => rfl⟩
theorem grown_over {a b c : World} {r : Option Nat} {z : Nat} (h : a.grownBy b r) (h' : b.grownBy c (some z)) (hz : a.heap.size ≤ z) : a.grownBy c r :=
  ⟨h'.os.trans h.os, h'.tape.trans h.tape, h'.output.trans h.output, Nat.le_trans h.size h'.size, fun i hi hne => (h'.block i (Nat.lt_of_lt_of_le hi h.size) (fun e => by cases e; omega)).trans (h.block i hi hne)⟩
theorem grown_alloc (w : World) (o : Obj) (r : Option Nat) : w.grownBy (w.alloc o) r := ⟨rfl, rfl, rfl, by simp, fun i hi _ => Below.block (below_alloc w o) i hi⟩
theorem Blkk.frozen {x : World} {g : Nat} {e : TypeId} {N : Nat} (h : Blkk x g e N) (p : Nat) : x.frozen? ⟨g, p, none⟩ = false := by
  obtain ⟨cur, h1, _⟩ := h
  simp [World.frozen?, h1]
theorem drew_cell (x : World) (a : Addr) : x.drew.cell? a = x.cell? a := rfl
theorem Blkk.drew {x : World} {g : Nat} {e : TypeId} {N : Nat} (h : Blkk x g e N) : Blkk x.drew g e N := h
theorem Blkk.made (w : World) (ROW : Array Value) (e : TypeId) (N : Nat) (h : ROW.size = N) : Blkk (w.alloc (.cells ROW e)) w.heap.size e N := ⟨ROW, by show (w.heap.push _)[w.heap.size]? = _; simp, h⟩
theorem Blkk.any {x : World} {g : Nat} {e : TypeId} {N : Nat} (h : Blkk x g e N) {p : Nat} (hp : p < N) : (x.cell? ⟨g, p, none⟩).isSome = true := by
  obtain ⟨u, hu⟩ := (h.cell hp).1
  rw [hu]; rfl
theorem Blkk.shape {x : World} {g : Nat} {e : TypeId} {N : Nat} (h : Blkk x g e N) : x.shape? g = some (e, N) := by
  obtain ⟨cur, h1, h2⟩ := h
  simp [World.shape?, h1, h2]
theorem insF_lt {F : Nat → Int} {m n i p : Nat} {xs : List Int} (hp : p < i * m) : insF F m n i xs p = F p := by
  unfold insF
  rw [List.append_assoc, List.getD_eq_getElem?_getD, List.getElem?_append_left (by rw [nums_length]; exact hp)]
  simp [nums, hp]
theorem insF_at {F : Nat → Int} {m n i p : Nat} {xs : List Int} (hx : xs.length = m) (hp : p < m) : insF F m n i xs (i * m + p) = xs.getD p 0 := by
  unfold insF
  rw [List.append_assoc, List.getD_eq_getElem?_getD, List.getElem?_append_right (by rw [nums_length]; omega), nums_length, Nat.add_sub_cancel_left, List.getElem?_append_left (by omega), List.getD_eq_getElem?_getD]
theorem insF_gt {F : Nat → Int} {m n i p : Nat} {xs : List Int} (hx : xs.length = m) (hp : p < (n - i) * m) : insF F m n i xs ((i + 1) * m + p) = F (i * m + p) := by
  unfold insF
  have e : (i + 1) * m = i * m + m := Nat.succ_mul _ _
  rw [List.append_assoc, List.getD_eq_getElem?_getD, List.getElem?_append_right (by rw [nums_length]; omega), nums_length, List.getElem?_append_right (by omega), show (i + 1) * m + p - i * m - xs.length = p by omega]
  simp [nums, hp]
/-- The cells of a row into which a struct was put. -/
theorem ins_cells {x : World} {g m n i : Nat} {F : Nat → Int} {xs : List Int} (hx : xs.length = m) (hi : i ≤ n) (h1 : ∀ p, p < i * m → x.cell? ⟨g, p, none⟩ = some (.int .i64 (F p))) (h2 : ∀ p, p < m → x.cell? ⟨g, i * m + p, none⟩ = some (.int .i64 (xs.getD p 0)))
    (h3 : ∀ p, p < (n - i) * m → x.cell? ⟨g, (i + 1) * m + p, none⟩ = some (.int .i64 (F (i * m + p)))) : ∀ p, p < (n + 1) * m → x.cell? ⟨g, p, none⟩ = some (.int .i64 (insF F m n i xs p)) := by
  intro p hp
  have e : (i + 1) * m = i * m + m := Nat.succ_mul _ _
  have e2 : (n + 1) * m = (i + 1) * m + (n - i) * m := by rw [← Nat.add_mul]; congr 1; omega
  by_cases a1 : p < i * m
  · rw [h1 p a1, insF_lt a1]
  · by_cases a2 : p < (i + 1) * m
    · have := h2 (p - i * m) (by omega)
      rw [← insF_at (F := F) (n := n) (i := i) hx (by omega), show i * m + (p - i * m) = p by omega] at this
      exact this
    · have := h3 (p - (i + 1) * m) (by omega)
      rw [← insF_gt (F := F) (n := n) (xs := xs) hx (by omega), show (i + 1) * m + (p - (i + 1) * m) = p by omega] at this
      exact this
theorem sets_in (g o N : Nat) (F : Nat → Int) (w : World) (h : ∀ j, j < N → (w.cell? ⟨g, o + j, none⟩).isSome = true) {p : Nat} (hp : p < N) : (w.setCells g o (vals F N)).cell? ⟨g, o + p, none⟩ = some (.int .i64 (F p)) := by
  rw [World.cell?_setCells_in g (vals F N) o w (fun j hj => h j (by rwa [vals_length] at hj)) p (by rw [vals_length]; exact hp)]
  simp [vals]
/-- An append of one struct lies in the row's own block or in a new one. -/
theorem app_block (t ty e : TypeId) (i : TypeInfo) (z : Value) (m bytes : Nat) (ht : Tryz.prog.underlying t = some (.slice e)) (hi : Tryz.prog.info? e = some i) (hz : i.zero = some z) (hsize : i.size = m) (hby : i.bytes = bytes) (hb5 : bytes ≤ 1000)
    (w : World) (B n : Nat) (F X : Nat → Int) (v : Value) (h : Own w B e m n F v) (hn : n < 1048576) (a : Addr) (vc : Nat) (hx : ∀ p, p < m → w.cell? (a.add p) = some (.int .i64 (X p))) {v' : Value} {w' : World}
    (hr : (Builtin.append_ #[t, t] ty #[v, .slice (some a) 1 vc]).run Tryz.prog w = .ok v' w') : ∀ q, v'.ownBlock = some q → v.ownBlock = some q ∨ w.heap.size ≤ q := by
  have hbb : (n + 1) * bytes ≤ 1048576 * 1000 := Nat.mul_le_mul (by omega) hb5
  have hc : ∀ j u, (vals X m)[j]? = some u → w.cell? (a.add j) = some u := fun j u hj => by obtain ⟨h1, rfl⟩ := vals_inv hj; exact hx j h1
  have hsrc : Src Tryz.prog i.size t (.slice (some a) 1 vc) 1 (vals X m) w := Src.ofSlice w ht a 1 vc _ (by rw [vals_length, hsize, Nat.one_mul]) hc (vals_one _ _)
  rcases h.parts with ⟨rfl, rfl⟩ | ⟨g, c, rfl, hg, hnc, hcm, hb, hF⟩
  · have h2 := run_append_grow_src w t t ty e i z ht hi hz none 0 0 [] (run_firstCells_none w.drew _ 0 0 0) _ 1 _ hsrc (by omega) (by omega) (by rw [hby]; exact growslice_fits (by omega) (by omega))
    rw [h2] at hr
    cases hr
    intro q hq
    cases hq
    exact Or.inr (Nat.le_refl _)
  · by_cases hroom : n + 1 ≤ c
    · have hm1 : (n + 1) * m ≤ c * m := Nat.mul_le_mul_right m hroom
      have e1 : (n + 1) * m = n * m + m := Nat.succ_mul _ _
      have h2 := run_append_room_cells w t ty e i ht hi g 0 n c a 1 vc (vals X m) (by rw [vals_length, hsize, Nat.one_mul]) hc (vals_one _ _) hroom (fun j hj => by rw [vals_length] at hj; rw [hsize]; exact hb.any (by omega)) (fun j hj => hb.frozen _)
      rw [h2] at hr
      cases hr
      intro q hq
      exact Or.inl hq
    · have h2 := run_append_grow_src w t t ty e i z ht hi hz (some ⟨g, 0, none⟩) n c (vals F (n * m)) (by rw [hsize]; exact run_firstCells_some w.drew m n _ n c _ (vals_length _ _) (fun j u hj => by obtain ⟨h1, rfl⟩ := vals_inv hj; rw [Addr.add_lit, Nat.zero_add]; exact hF j h1)) _ 1 _ hsrc (by omega) (by omega) (by rw [hby]; exact growslice_fits (by omega) (by omega))
      rw [h2] at hr
      cases hr
      intro q hq
      cases hq
      exact Or.inr (Nat.le_refl _)
end

section
open Go.RowKit Go.Lib
end

section
open Go.RowKit Go.Lib
end
end Go.Proofs.YtnchaccgenfhoaaGreat

namespace Go.Proofs.YtnchaccgenfhoaaGreat
open Go.RowKit Go.Lib
theorem infoz_Pair : (Tryz.prog.info? 61).map (fun i => (i.zero, i.size, i.bytes)) = some (some (.agg #[.int .i64 0, .int .i64 0]), 2, 16) := by kernel_rfl

theorem sizeP : (Tryz.prog.info? 61).map (·.size) = some 2 := by kernel_rfl
theorem underP : Tryz.prog.underlying 24 = some (.slice 61) := by kernel_rfl

set_option maxHeartbeats 4000000 in
set_option maxRecDepth 100000 in
/-- There is room, i is a place ahead of the end: in place. -/
theorem insP_shift (w : World) (g n c i vb vc : Nat) (F : Nat → Int) (X : Nat → Int) (hb : Blkk w g 61 (c * 2)) (hroom : n + 1 ≤ c) (hc63 : c ≤ 9223372036854775807) (hi : i < n) (hF : ∀ p, p < n * 2 → w.cell? ⟨g, p, none⟩ = some (.int .i64 (F p)))
    (hvb : vb ≠ g) (hv : Blkk w vb 61 2) (hxs : ∀ p, p < 2 → w.cell? ⟨vb, p, none⟩ = some (.int .i64 (X p))) :
    Calls Tryz.prog 110 #[.slice (some ⟨g, 0, none⟩) n c, .int .i64 i, .slice (some ⟨vb, 0, none⟩) 1 vc] w fun e w' =>
      e = .returned (.slice (some ⟨g, 0, none⟩) (n + 1) c) ∧ w' = (w.drew.setCells g ((i + 1) * 2) (vals (fun p => F (i * 2 + p)) ((n - i) * 2))).setCells g (i * 2) (vals X 2) := by
  have hz2 : ¬ ((i : Int) = (n : Int)) := by omega
  have hov : ∀ lb cb, (callFunc 126 #[.slice (some ⟨vb, 0, none⟩) 1 vc, .slice (some ⟨g, (i + 1) * 2, none⟩) lb cb]).run Tryz.prog w = .ok (.value (.bool false)) w := fun lb cb => by
    rw [run_callFunc_extern Tryz.func126 (by kernel_rfl) (by kernel_rfl) (by kernel_rfl) (e := Extern.SlicesOverlaps.overlaps #[24, 24] #[4]) (by kernel_rfl),
      Lib.run_overlaps_apart w _ _ 61 underP 2 (fun w => by kernel_rfl) ⟨vb, 0, none⟩ ⟨g, (i + 1) * 2, none⟩ 1 vc lb cb hvb _ _ _ _ hv.shape hb.shape (by omega) (hv.frozen _) (hv.frozen _)]
    rfl
  have hw1 : IntKind.i64.wrap ((i : Int) + 1) = (i : Int) + 1 := by rw [IntKind.wrap_i64]; omega
  have hw2 : IntKind.i64.wrap ((n : Int) + 1) = (n : Int) + 1 := by rw [IntKind.wrap_i64]; omega
  have hb1 : (0 : Int) ≤ (i : Int) + 1 := by omega
  have hin : i ≤ n := by omega
  have htn : ((i : Int) + 1).toNat = i + 1 := by omega
  have htn' : ((n : Int) + 1).toNat = n + 1 := by omega
  have hb2 : ¬ (c = i + 1) := by omega
  have hb3 : (i : Int) ≤ (n : Int) + 1 := by omega
  have hb4 : ¬ (c = i) := by omega
  have hb5 : ¬ ((c : Int) < (n : Int) + 1) := by omega
  have hb6 : (0 : Int) ≤ (n : Int) + 1 := by omega
  have hb7 : (n : Int) + 1 ≤ (c : Int) := by omega
  have hb8 : (i : Int) + 1 ≤ (n : Int) + 1 := by omega
  have hm1 : (n + 1) * 2 ≤ c * 2 := Nat.mul_le_mul_right 2 hroom
  have hcp1 : ∀ ty dc sc, (Builtin.copy_ #[24, 24] ty #[.slice (some ⟨g, (i + 1) * 2, none⟩) (n - i) dc, .slice (some ⟨g, i * 2, none⟩) (n + 1 - i) sc]).run Tryz.prog w.drew = .ok (goInt (Nat.min (n + 1 - i) (n - i))) (w.drew.setCells g ((i + 1) * 2) (vals (fun p => F (i * 2 + p)) ((n - i) * 2))) := fun ty dc sc =>
    run_copyM w.drew _ _ ty 61 2 g _ _ dc ⟨g, i * 2, none⟩ _ sc _ underP sizeP (by rw [vals_length]; congr 1; simp only [Nat.min_def]; split <;> omega)
      (fun j v hj => by obtain ⟨h1, rfl⟩ := vals_inv hj; rw [Addr.add_lit]; exact hF _ (by omega))
      (fun j hj => by rw [vals_length] at hj; exact hb.any (by omega)) (fun j hj => hb.frozen _) (vals_one _ _)
  obtain ⟨W1, hW1⟩ : ∃ W1, W1 = w.drew.setCells g ((i + 1) * 2) (vals (fun p => F (i * 2 + p)) ((n - i) * 2)) := ⟨_, rfl⟩
  have hbW : Blkk W1 g 61 (c * 2) := by rw [hW1]; exact Blkk.sets _ _ _ hb
  have hcp2 : ∀ ty dc, (Builtin.copy_ #[24, 24] ty #[.slice (some ⟨g, i * 2, none⟩) (n + 1 - i) dc, .slice (some ⟨vb, 0, none⟩) 1 vc]).run Tryz.prog W1 = .ok (goInt (Nat.min 1 (n + 1 - i))) (W1.setCells g (i * 2) (vals X 2)) := fun ty dc =>
    run_copyM W1 _ _ ty 61 2 g _ _ dc ⟨vb, 0, none⟩ 1 vc _ underP sizeP (by rw [vals_length]; simp only [Nat.min_def]; split <;> omega)
      (fun j v hj => by
        obtain ⟨h1, rfl⟩ := vals_inv hj
        rw [Addr.add_lit, hW1, World.cell?_setCells_out g _ _ _ _ (fun h _ => absurd h hvb), Nat.zero_add]
        exact hxs j h1)
      (fun j hj => by rw [vals_length] at hj; exact hbW.any (by omega)) (fun j hj => hbW.frozen _) (vals_one _ _)
  subst hW1
  clear hF hxs hb hv hbW
  go_enter Tryz.func110, Tryz.ntmps110
  go_wp2_with (simp only [hov])
  go_region_law (refine step_copyM rfl _ _ 24 24 rfl _ _ (by simp [Act.eval, Act.put]) (by simp [Act.eval, Act.put]) (hcp1 _ _ _) ?_)
  go_wp2_with (simp only [hcp2])
  go_ret
  exact ⟨rfl, rfl⟩

set_option maxHeartbeats 4000000 in
set_option maxRecDepth 100000 in
/-- There is no room, i is a place ahead of the end: a new row. -/
theorem insP_grow (w : World) (g n c i vb vc : Nat) (F : Nat → Int) (X : Nat → Int) (hb : Blkk w g 61 (c * 2)) (hnc : n ≤ c) (hroom : c < n + 1) (hn : n ≤ 1048576) (hi : i < n) (hF : ∀ p, p < n * 2 → w.cell? ⟨g, p, none⟩ = some (.int .i64 (F p)))
    (hv : Blkk w vb 61 2) (hxs : ∀ p, p < 2 → w.cell? ⟨vb, p, none⟩ = some (.int .i64 (X p))) :
    Calls Tryz.prog 110 #[.slice (some ⟨g, 0, none⟩) n c, .int .i64 i, .slice (some ⟨vb, 0, none⟩) 1 vc] w fun e w' =>
      ∃ G ROW, (G ≤ maxLen ∧ n + 1 ≤ G ∧ ROW.size = G * 2 ∧ (∀ p, p < i * 2 → ROW[p]? = some (.int .i64 (F p)))) ∧ e = .returned (.slice (some ⟨w.heap.size, 0, none⟩) (n + 1) G) ∧ w' = (((w.alloc (.cells ROW 61)).drew.setCells w.heap.size (i * 2) (vals X 2)).drew).setCells w.heap.size ((i + 1) * 2) (vals (fun p => F (i * 2 + p)) ((n - i) * 2)) := by
  have hz2 : ¬ ((i : Int) = (n : Int)) := by omega
  have hz3 : (c : Int) < (n : Int) + 1 := by omega
  obtain ⟨i0, hi0, hz0, hzs, hzb⟩ := info_parts infoz_Pair
  have hgw := hb.lt
  have hvw := hv.lt
  have hkk : (n : Int) + 1 - (i : Int) = ((n + 1 - i : Nat) : Int) := by omega
  have hik : i + (n + 1 - i) = n + 1 := by omega
  have hmi : i * 2 ≤ n * 2 := Nat.mul_le_mul_right 2 (by omega)
  have hold : (Builtin.firstCells i0.size i (.slice (some ⟨g, 0, none⟩) i c)).run Tryz.prog w.drew = .ok (vals F (i * 2)).toArray w.drew := by
    rw [hzs]
    exact run_firstCells_some w.drew 2 i ⟨g, 0, none⟩ i c (vals F (i * 2)) (by rw [vals_length]) (fun j v hj => by
      obtain ⟨h1, rfl⟩ := vals_inv hj
      rw [Addr.add_lit, Nat.zero_add]
      exact hF j (by omega))
  have hrz : ∀ ty, ∃ G ROW, (G ≤ maxLen ∧ n + 1 ≤ G ∧ ROW.size = G * 2 ∧ (∀ p, p < i * 2 → ROW[p]? = some (.int .i64 (F p)))) ∧ (Builtin.append_ #[24, 3] ty #[.slice (some ⟨g, 0, none⟩) i c, .int .i64 ((n : Int) + 1 - (i : Int))]).run Tryz.prog w = .ok (.slice (some ⟨w.heap.size, 0, none⟩) (n + 1) G) (w.drew.alloc (.cells ROW 61)) := fun ty => by
    have h := Lib.run_append_grow_zeros w 24 3 ty 61 i0 _ .i64 .i64 underP (by kernel_rfl) hi0 hz0 (some ⟨g, 0, none⟩) i c (vals F (i * 2)) hold (n + 1 - i) (by omega) (by omega) (by omega) (by omega) (by rw [hzb]; omega) (by rw [hzb, hik]; exact growslice_fits hroom (by omega))
    rw [hik] at h
    rw [hkk]
    have hG1 := grownCap_ge w (n + 1) c 61
    have hG2 := grownCap_le_maxLen w (n + 1) c 61 (by unfold maxLen; omega)
    refine ⟨_, _, ⟨hG2, hG1, ?_, ?_⟩, h⟩
    · simp [Builtin.zeroCells, Value.cells, vals_length]
      omega
    · intro p hp
      rw [Array.append_assoc, Array.getElem?_append_left (by simp [vals_length]; exact hp)]
      simp [vals, hp]
  obtain ⟨G, ROW, hG, hrw⟩ := hrz 24
  clear hrz
  obtain ⟨hG63, hGn, hRl, hR⟩ := hG
  have hm1 : (n + 1) * 2 ≤ G * 2 := Nat.mul_le_mul_right 2 hGn
  have hN : Blkk (w.alloc (.cells ROW 61)).drew w.heap.size 61 (G * 2) := (Blkk.made w ROW _ _ hRl).drew
  have hOb : ∀ j b, b < w.heap.size → (w.alloc (.cells ROW 61)).drew.cell? ⟨b, j, none⟩ = w.cell? ⟨b, j, none⟩ := fun j b h => by rw [drew_cell]; exact World.cell?_alloc_past (w := w) _ b j h
  have hcpA' : ∀ ty dc, (Builtin.copy_ #[24, 24] ty #[.slice (some ⟨w.heap.size, i * 2, none⟩) (n + 1 - i) dc, .slice (some ⟨vb, 0, none⟩) 1 vc]).run Tryz.prog (w.alloc (.cells ROW 61)).drew = .ok (goInt (Nat.min 1 (n + 1 - i))) ((w.alloc (.cells ROW 61)).drew.setCells w.heap.size (i * 2) (vals X 2)) := fun ty dc =>
    run_copyM _ _ _ ty 61 2 w.heap.size _ _ dc ⟨vb, 0, none⟩ 1 vc _ underP sizeP (by rw [vals_length]; simp only [Nat.min_def]; split <;> omega)
      (fun j v hj => by
        obtain ⟨h1, rfl⟩ := vals_inv hj
        rw [Addr.add_lit, hOb _ _ hvw, Nat.zero_add]
        exact hxs j h1)
      (fun j hj => by rw [vals_length] at hj; exact hN.any (by omega)) (fun j hj => hN.frozen _) (vals_one _ _)
  obtain ⟨W2, hW2⟩ : ∃ W2, W2 = (w.alloc (.cells ROW 61)).drew.setCells w.heap.size (i * 2) (vals X 2) := ⟨_, rfl⟩
  have hN2 : Blkk W2.drew w.heap.size 61 (G * 2) := by rw [hW2]; exact (Blkk.sets _ _ _ hN).drew
  have hcpB' : ∀ ty dc sc, (Builtin.copy_ #[24, 24] ty #[.slice (some ⟨w.heap.size, (i + 1) * 2, none⟩) (n - i) dc, .slice (some ⟨g, i * 2, none⟩) (n - i) sc]).run Tryz.prog W2.drew = .ok (goInt (Nat.min (n - i) (n - i))) (W2.drew.setCells w.heap.size ((i + 1) * 2) (vals (fun p => F (i * 2 + p)) ((n - i) * 2))) := fun ty dc sc =>
    run_copyM _ _ _ ty 61 2 w.heap.size _ _ dc ⟨g, i * 2, none⟩ _ sc _ underP sizeP (by rw [vals_length]; congr 1; simp only [Nat.min_def]; split <;> omega)
      (fun j v hj => by
        obtain ⟨h1, rfl⟩ := vals_inv hj
        rw [Addr.add_lit, drew_cell, hW2, World.cell?_setCells_out _ _ _ _ _ (fun h _ => absurd h (show g ≠ w.heap.size by omega)), hOb _ _ hgw]
        exact hF _ (by omega))
      (fun j hj => by rw [vals_length] at hj; exact hN2.any (by omega)) (fun j hj => hN2.frozen _) (vals_one _ _)
  clear hN2
  subst hW2
  have hG63' : G ≤ 9223372036854775807 := by unfold maxLen at hG63; omega
  have hGi : ¬ (G = i) := by omega
  have hGim : ¬ (G = i + 1) := by omega
  have hci : ¬ (c = i) := by omega
  have hw1 : IntKind.i64.wrap ((i : Int) + 1) = (i : Int) + 1 := by rw [IntKind.wrap_i64]; omega
  have hw2 : IntKind.i64.wrap ((n : Int) + 1) = (n : Int) + 1 := by rw [IntKind.wrap_i64]; omega
  have hw3 : IntKind.i64.wrap ((n : Int) + 1 - (i : Int)) = (n : Int) + 1 - (i : Int) := by rw [IntKind.wrap_i64]; omega
  have hb1 : (0 : Int) ≤ (i : Int) + 1 := by omega
  have hin : i ≤ n := by omega
  have htn : ((i : Int) + 1).toNat = i + 1 := by omega
  have hb3 : (i : Int) ≤ (n : Int) := by omega
  have hb8 : (i : Int) + 1 ≤ (n : Int) + 1 := by omega
  have hb9 : (i : Int) ≤ (n : Int) + 1 := by omega
  refine Calls.mono (R := fun e w' => e = .returned (.slice (some ⟨w.heap.size, 0, none⟩) (n + 1) G) ∧ w' = (((w.alloc (.cells ROW 61)).drew.setCells w.heap.size (i * 2) (vals X 2)).drew).setCells w.heap.size ((i + 1) * 2) (vals (fun p => F (i * 2 + p)) ((n - i) * 2))) ?_ (fun e w' h => ⟨G, ROW, ⟨hG63, hGn, hRl, hR⟩, h.1, h.2⟩)
  clear hkk hik hold hRl hR hG63 hN hOb hF hxs hb hv hi0 hz0 hzs hzb hm1 hmi
  go_enter Tryz.func110, Tryz.ntmps110
  go_wp2_with (first | (at_builtin; refine wpList_appM _ rfl _ _ 24 3 rfl (.slice (some ⟨g, 0, none⟩) i c) (.int .i64 ((n : Int) + 1 - (i : Int))) rfl rfl hrw ?_) | (simp only [hcpA']))
  go_region_law (refine step_copyM rfl _ _ 24 24 rfl _ _ (by simp [Act.eval, Act.put]) (by simp [Act.eval, Act.put]) (hcpB' _ _ _) ?_)
  go_wp2
  go_ret
  exact ⟨rfl, rfl⟩

/-- What slices.Insert answers: the row with the struct at place i; nothing else has turned but the row's own block. -/
def InsP (w : World) (B n i : Nat) (F : Nat → Int) (xs : List Int) (v : Value) (e : Ending) (w' : World) : Prop :=
  ∃ ao cp, e = .returned (.slice ao (n + 1) cp) ∧ Own w' B 61 2 (n + 1) (insF F 2 n i xs) (.slice ao (n + 1) cp) ∧ w.grownBy w' v.ownBlock ∧ ∀ q, (Value.slice ao (n + 1) cp).ownBlock = some q → v.ownBlock = some q ∨ w.heap.size ≤ q
set_option maxHeartbeats 4000000 in
set_option maxRecDepth 100000 in
theorem insP_end (w : World) (B n vb vc : Nat) (F : Nat → Int) (xs : List Int) (v : Value) (hx : xs.length = 2) (h : Own w B 61 2 n F v) (hB : B ≤ w.heap.size) (hn : n < 1048576)
    (hv : Blkk w vb 61 2) (hxs : ∀ p, p < 2 → w.cell? ⟨vb, p, none⟩ = some (.int .i64 (xs.getD p 0))) :
    Calls Tryz.prog 110 #[v, .int .i64 n, .slice (some ⟨vb, 0, none⟩) 1 vc] w (InsP w B n n F xs v) := by
  have hrow : Row w 0 2 1 (fun p => xs.getD p 0) (.slice (some ⟨vb, 0, none⟩) 1 vc) := ⟨_, _, rfl, fun _ => ⟨vb, 0, rfl, Nat.zero_le _, hv.lt, fun p hp => by rw [Nat.zero_add]; exact hxs p (by omega)⟩⟩
  have hown : OwnM w B 61 2 v n (nums F (n * 2)) := by unfold OwnM; rw [nums_vals]; exact h
  obtain ⟨i0, hi0, hz0, hzs, hzb⟩ := info_parts infoz_Pair
  have hend : ∀ ao cp w', OwnM w' B 61 2 (.slice ao (n + 1) cp) (n + 1) (nums F (n * 2) ++ nums (fun p => xs.getD p 0) (1 * 2)) → w.grownBy w' v.ownBlock → (∀ q, (Value.slice ao (n + 1) cp).ownBlock = some q → v.ownBlock = some q ∨ w.heap.size ≤ q) → InsP w B n n F xs v (.returned (.slice ao (n + 1) cp)) w' := fun ao cp w' h1 h2 h3 => by
    refine ⟨ao, cp, rfl, (h1.own (by simp [nums_length]; omega)).congr (fun p hp => ?_), h2, h3⟩
    by_cases a1 : p < n * 2
    · rw [insF_lt a1, List.getD_eq_getElem?_getD, List.getElem?_append_left (by rw [nums_length]; exact a1)]
      simp [nums, a1]
    · have := insF_at (F := F) (n := n) (i := n) (p := p - n * 2) hx (by omega)
      rw [show n * 2 + (p - n * 2) = p by omega] at this
      rw [this, List.getD_eq_getElem?_getD, List.getElem?_append_right (by rw [nums_length]; omega), nums_length]
      simp [nums, show p - n * 2 < 2 by omega]
  obtain ⟨POST, hP⟩ : ∃ POST, POST = InsP w B n n F xs v := ⟨_, rfl⟩
  rw [← hP] at hend ⊢
  obtain ⟨ao, cp, rfl⟩ := h.form
  have hrun : ∀ ty, ∃ ao' cp' w', (Builtin.append_ #[24, 24] ty #[.slice ao n cp, .slice (some ⟨vb, 0, none⟩) 1 vc]).run Tryz.prog w = .ok (.slice ao' (n + 1) cp') w' ∧ POST (.returned (.slice ao' (n + 1) cp')) w' := fun ty => by
    obtain ⟨ao', cp', w', h1, h2, h3⟩ := run_app 24 ty 61 i0 _ 2 _ underP hi0 hz0 hzs hzb rfl (by omega) (by omega) w B n _ _ hown 0 1 _ _ hrow (by omega) hB
    have h4 := app_block 24 ty 61 i0 _ 2 _ underP hi0 hz0 hzs hzb (by omega) w B n F (fun p => xs.getD p 0) _ h (by omega) ⟨vb, 0, none⟩ vc (fun p hp => by rw [Addr.add_lit, Nat.zero_add]; exact hxs p hp) h1
    exact ⟨ao', cp', w', h1, hend _ _ _ h2 h3 h4⟩
  obtain ⟨ao', cp', w', hr, hfin⟩ := hrun 24
  clear hrun hend hown hrow hv hxs hP hi0 hz0 hzs hzb
  rcases h.parts with ⟨q, rfl⟩ | ⟨g, cap, q, _, hnc, hcm, _⟩
  · cases q
    clear h
    go_enter Tryz.func110, Tryz.ntmps110
    go_wp2_with (at_builtin; refine wpList_appM _ rfl _ _ 24 24 rfl (.slice none 0 0) (.slice (some ⟨vb, 0, none⟩) 1 vc) rfl rfl hr ?_)
    exact hfin
  · cases q
    clear h
    unfold maxLen at hcm
    by_cases hcn : cp = n
    · subst hcn
      go_enter Tryz.func110, Tryz.ntmps110
      go_wp2_with (at_builtin; refine wpList_appM _ rfl _ _ 24 24 rfl (.slice (some ⟨g, 0, none⟩) cp cp) (.slice (some ⟨vb, 0, none⟩) 1 vc) rfl rfl hr ?_)
      exact hfin
    · go_enter Tryz.func110, Tryz.ntmps110
      go_wp2_with (at_builtin; refine wpList_appM _ rfl _ _ 24 24 rfl (.slice (some ⟨g, 0, none⟩) n cp) (.slice (some ⟨vb, 0, none⟩) 1 vc) rfl rfl hr ?_)
      exact hfin
/-- slices.Insert of one struct. -/
theorem insP_any (w : World) (B n i vb vc : Nat) (F : Nat → Int) (xs : List Int) (v : Value) (hx : xs.length = 2) (h : Own w B 61 2 n F v) (hB : B ≤ w.heap.size) (hn : n < 1048576) (hi : i ≤ n)
    (hvb : v.ownBlock ≠ some vb) (hv : Blkk w vb 61 2) (hxs : ∀ p, p < 2 → w.cell? ⟨vb, p, none⟩ = some (.int .i64 (xs.getD p 0))) :
    Calls Tryz.prog 110 #[v, .int .i64 i, .slice (some ⟨vb, 0, none⟩) 1 vc] w (InsP w B n i F xs v) := by
  rcases Nat.eq_or_lt_of_le hi with rfl | hi
  · exact insP_end w B _ vb vc F xs v hx h hB hn hv hxs
  · rcases h.parts with ⟨rfl, rfl⟩ | ⟨g, c, rfl, hg, hnc, hcm, hb, hF⟩
    · exact absurd hi (Nat.not_lt_zero _)
    · have hgv : vb ≠ g := fun e => hvb (by rw [e]; rfl)
      have hm3 : (n - i) * 2 + i * 2 = n * 2 := by rw [← Nat.add_mul]; congr 1; omega
      by_cases hr : n + 1 ≤ c
      · have hm1 : (n + 1) * 2 ≤ c * 2 := Nat.mul_le_mul_right 2 hr
        refine (insP_shift w g n c i vb vc F (fun p => xs.getD p 0) hb hr (by unfold maxLen at hcm; omega) hi hF hgv hv hxs).mono ?_
        rintro e w' ⟨rfl, rfl⟩
        have hb1 := Blkk.sets (vals (fun p => F (i * 2 + p)) ((n - i) * 2)) ((i + 1) * 2) w.drew hb
        refine ⟨_, _, rfl, own_of (Blkk.sets _ _ _ hb1) hg hr hcm (ins_cells hx (Nat.le_of_lt hi) (fun p hp => ?_) (fun p hp => ?_) (fun p hp => ?_)), ?_⟩
        · rw [World.cell?_setCells_out g _ _ _ _ (fun _ _ => Or.inl hp), World.cell?_setCells_out g _ _ _ _ (fun _ _ => Or.inl (by show p < _; omega))]
          exact hF p (by omega)
        · exact sets_in g (i * 2) 2 (fun p => xs.getD p 0) _ (fun j hj => hb1.any (by omega)) hp
        · rw [World.cell?_setCells_out g _ _ _ _ (fun _ _ => Or.inr (by rw [vals_length]; show _ ≤ (i + 1) * 2 + p; omega))]
          exact sets_in g ((i + 1) * 2) ((n - i) * 2) (fun p => F (i * 2 + p)) w.drew (fun j hj => hb.drew.any (by omega)) hp
        · exact ⟨grown_trans (grown_trans (grown_drew w _) (grown_sets g _ _ _)) (grown_sets g _ _ _), fun q hq => Or.inl hq⟩
      · refine (insP_grow w g n c i vb vc F (fun p => xs.getD p 0) hb hnc (by omega) (by omega) hi hF hv hxs).mono ?_
        rintro e w' ⟨G, ROW, ⟨hG1, hG2, hG3, hG4⟩, rfl, rfl⟩
        have hm1 : (n + 1) * 2 ≤ G * 2 := Nat.mul_le_mul_right 2 hG2
        have hN : Blkk (w.alloc (.cells ROW 61)).drew w.heap.size 61 (G * 2) := (Blkk.made w ROW _ _ hG3).drew
        have hb1 : Blkk (((w.alloc (.cells ROW 61)).drew.setCells w.heap.size (i * 2) (vals (fun p => xs.getD p 0) 2)).drew) w.heap.size 61 (G * 2) := (Blkk.sets (vals (fun p => xs.getD p 0) 2) (i * 2) _ hN).drew
        refine ⟨_, _, rfl, own_of (Blkk.sets _ _ _ hb1) hB hG2 hG1 (ins_cells hx (Nat.le_of_lt hi) (fun p hp => ?_) (fun p hp => ?_) (fun p hp => ?_)), ?_⟩
        · rw [World.cell?_setCells_out _ _ _ _ _ (fun _ _ => Or.inl (by show p < _; omega))]
          rw [drew_cell, World.cell?_setCells_out _ _ _ _ _ (fun _ _ => Or.inl hp), drew_cell, World.cell?_alloc_at (w := w) ROW _ w.heap.size p rfl]
          exact hG4 p hp
        · rw [World.cell?_setCells_out _ _ _ _ _ (fun _ _ => Or.inl (by show i * 2 + p < _; omega))]
          rw [drew_cell]
          exact sets_in w.heap.size (i * 2) 2 (fun p => xs.getD p 0) ((w.alloc (.cells ROW 61)).drew) (fun j hj => hN.any (by omega)) hp
        · exact sets_in w.heap.size ((i + 1) * 2) ((n - i) * 2) (fun p => F (i * 2 + p)) _ (fun j hj => hb1.any (by omega)) hp
        · have g1 : w.grownBy (w.alloc (.cells ROW 61)).drew (some g) := grown_trans (grown_alloc w _ _) (grown_drew _ _)
          have g2 := grown_over g1 (grown_sets w.heap.size (vals (fun p => xs.getD p 0) 2) (i * 2) _) (Nat.le_refl _)
          have g3 := grown_trans g2 (grown_drew _ _)
          exact ⟨grown_over g3 (grown_sets w.heap.size (vals (fun p => F (i * 2 + p)) ((n - i) * 2)) ((i + 1) * 2) _) (Nat.le_refl _), fun q hq => by cases hq; exact Or.inr (Nat.le_refl _)⟩
end Go.Proofs.YtnchaccgenfhoaaGreat

namespace Go.Proofs.YtnchaccgenfhoaaGreat
open Go.RowKit Go.Lib

/-- A row without its element at place i. -/
def dropF (F : Nat → Int) (m i p : Nat) : Int := if p < i * m then F p else F (p + m)
/-- 'append(d, s...)' where there is room, s of the same block or another: what s held goes behind. -/
theorem run_appInM (w : World) (t ty e : TypeId) (i : TypeInfo) (m : Nat) (ht : Tryz.prog.underlying t = some (.slice e)) (hi : Tryz.prog.info? e = some i) (hs : i.size = m)
    (g sLen sCap : Nat) (a : Addr) (k c : Nat) (cs : List Value) (hl : cs.length = k * m) (hsrc : ∀ j v, cs[j]? = some v → w.cell? (a.add j) = some v) (hc : ∀ j, j < cs.length → (w.cell? ⟨g, sLen * m + j, none⟩).isSome = true) (hf : ∀ j, j < cs.length → w.frozen? ⟨g, sLen * m + j, none⟩ = false) (h1 : ∀ v ∈ cs, v.oneCell' = true) (hroom : sLen + k ≤ sCap) :
    (Builtin.append_ #[t, t] ty #[.slice (some ⟨g, 0, none⟩) sLen sCap, .slice (some a) k c]).run Tryz.prog w = .ok (.slice (some ⟨g, 0, none⟩) (sLen + k) sCap) (w.setCells g (sLen * m) cs) := by
  subst hs
  have hf1 := run_firstCells_some (P := Tryz.prog) w i.size k a k c cs hl hsrc
  have hst := run_storeCells_cells (P := Tryz.prog) g (sLen * i.size) cs 0 w (by simpa using hc) (by simpa using hf) h1
  simp only [Nat.add_zero] at hst
  simp [Builtin.append_, run_underlying ht, sizeOf, typeInfo, hi, Builtin.lenOf, hroom, hf1, Addr.add_lit, hst]
/-- .. of nothing. -/
theorem run_appIn0 (w : World) (t ty e : TypeId) (i : TypeInfo) (ht : Tryz.prog.underlying t = some (.slice e)) (hi : Tryz.prog.info? e = some i) (g sLen sCap : Nat) (x : Option Addr) (c : Nat) (hroom : sLen ≤ sCap) :
    (Builtin.append_ #[t, t] ty #[.slice (some ⟨g, 0, none⟩) sLen sCap, .slice x 0 c]).run Tryz.prog w = .ok (.slice (some ⟨g, 0, none⟩) sLen sCap) w := by
  cases x with
  | none => simp [Builtin.append_, run_underlying ht, sizeOf, typeInfo, hi, Builtin.lenOf, hroom, Builtin.firstCells, storeCells]
  | some a =>
    have := run_appInM w t ty e i i.size ht hi rfl g sLen sCap a 0 c [] (by simp) (by simp) (by simp) (by simp) (by simp) hroom
    simpa [World.setCells] using this
theorem step_appInM {ops : Array Oper} {o : Oper} {a : Act} {w : World} {K : Act → World → Prop} {Q : Exit → Act → World → Prop} {E : Prop}
    (hg : o.guard = none) (d x : Operand) (dT sT : TypeId) (hop : o.op = Op.call { callee := Callee.builtin Builtin.append, args := #[d, x], argTypes := #[dT, sT] })
    (v u : Value) (hd : a.eval d = v) (hx : a.eval x = u) {v' : Value} {w' : World} (hr : (Builtin.append_ #[dT, sT] o.type #[v, u]).run Tryz.prog w = .ok v' w') (hK : K (a.put o.dst v') w') :
    if Region.wanted o (yielded ops a.tmps) = true then Oper.wp Tryz.prog o a w K Q else E := by
  have hw : Region.wanted o (yielded ops a.tmps) = true := by simp [Region.wanted, hg]
  rw [if_pos hw]
  unfold Oper.wp
  simp [execOp, hop, resolve, invoke, builtin, hd, hx, hr, Result.andThen]
  exact hK
theorem zeroPair (w : World) : (zeroValue 61).run Tryz.prog w = .ok (.agg #[.int .i64 0, .int .i64 0]) w := by kernel_rfl
def DelP (w : World) (B n i : Nat) (F : Nat → Int) (v : Value) (e : Ending) (w' : World) : Prop :=
  ∃ v', e = .returned v' ∧ Own w' B 61 2 (n - 1) (dropF F 2 i) v' ∧ w.grownBy w' v.ownBlock ∧ v'.ownBlock = v.ownBlock
set_option maxHeartbeats 4000000 in
set_option maxRecDepth 100000 in
theorem delP_any (w : World) (B n i : Nat) (F : Nat → Int) (v : Value) (h : Own w B 61 2 n F v) (hn : n ≤ 1048576) (hi : i < n) :
    Calls Tryz.prog 120 #[v, .int .i64 i, .int .i64 ((i : Int) + 1)] w (DelP w B n i F v) := by
  obtain ⟨i0, hi0, hz0, hzs, hzb⟩ := info_parts infoz_Pair
  rcases h.parts with ⟨rfl, rfl⟩ | ⟨g, c, rfl, hg, hnc, hcm, hb, hF⟩
  · exact absurd hi (Nat.not_lt_zero _)
  have hm1 : n * 2 ≤ c * 2 := Nat.mul_le_mul_right 2 hnc
  have hc63 : c ≤ 9223372036854775807 := by unfold maxLen at hcm; omega
  have hb1 : (0 : Int) ≤ (i : Int) + 1 := by omega
  have hin : i ≤ n := by omega
  have htn : ((i : Int) + 1).toNat = i + 1 := by omega
  have hb2 : (i : Int) ≤ (i : Int) + 1 := by omega
  have hb3 : (i : Int) + 1 ≤ (n : Int) := by omega
  have hne : ((i : Int) == (i : Int) + 1) = false := beq_eq_false_iff_ne.2 (by omega)
  have hb4 : ¬ (n = i) := by omega
  have hb5 : ¬ (c = i) := by omega
  have hb6 : (n : Int) ≤ (c : Int) := by omega
  have hb7 : (i : Int) ≤ (c : Int) := by omega
  have hb9 : ¬ (c = n - 1) := by omega
  have hb8 : ((n - 1 : Nat) : Int) ≤ (n : Int) := by omega
  have hbx : i + 1 ≤ n := by omega
  have hby : i + 1 ≤ c := by omega
  have hcl : ∀ W : World, Blkk W g 61 (c * 2) → ∃ w3, (∀ ty, (Builtin.clear_ #[24] ty #[.slice (some ⟨g, (n - 1) * 2, none⟩) (n - (n - 1)) (c - (n - 1))]).run Tryz.prog W = .ok (.tuple #[]) w3) ∧ (Blkk w3 g 61 (c * 2) ∧ ∀ p, p < (n - 1) * 2 → w3.cell? ⟨g, p, none⟩ = W.cell? ⟨g, p, none⟩) ∧ W.grownBy w3 (some g) := fun W hW =>
    run_clear_row 24 61 (.agg #[.int .i64 0, .int .i64 0]) 2 Tryz.underlying24 zeroPair rfl (by simp [Value.cells, Value.oneCell']) W g ((n - 1) * 2) (n - (n - 1)) (c - (n - 1)) (c * 2) hW (by omega) (by omega) (by omega)
  by_cases hlast : i + 1 = n
  · subst hlast
    have hap : ∀ ty x cc, (Builtin.append_ #[24, 24] ty #[.slice (some ⟨g, 0, none⟩) i c, .slice x 0 cc]).run Tryz.prog w.drew = .ok (.slice (some ⟨g, 0, none⟩) i c) w.drew := fun ty x cc =>
      run_appIn0 w.drew 24 ty 61 i0 Tryz.underlying24 hi0 g i c x cc (by omega)
    obtain ⟨w3, hc3, ⟨hM3, hk3⟩, hg3⟩ := hcl w.drew hb.drew
    simp only [Nat.add_sub_cancel, Nat.add_sub_cancel_left] at hc3 hk3
    have HF : Hid (∀ p, p < i * 2 → w3.cell? ⟨g, p, none⟩ = some (.int .i64 (dropF F 2 i p))) := fun p hp => by
      rw [hk3 p hp, drew_cell, hF p (by omega)]
      unfold dropF
      rw [if_pos (by omega)]
    have HO : Hid (Own w3 B 61 2 (i + 1 - 1) (dropF F 2 i) (.slice (some ⟨g, 0, none⟩) i c)) := own_of hM3 hg (by omega) hcm HF.out
    have HG : Hid (w.grownBy w3 (some g)) := grown_trans (grown_drew w _) hg3
    have hb10 : (i : Int) + 1 ≤ (c : Int) := by omega
    have hb11 : (i : Int) ≤ (i : Int) + 1 := by omega
    clear hF hb hM3 hk3 hg3 hcl HF h hg hcm
    by_cases hcn : c = i + 1
    · subst hcn
      simp only [Nat.add_sub_cancel_left] at hc3
      go_enter Tryz.func120, Tryz.ntmps120
      go_upto_region 5 with fail
      go_region_law (refine step_appInM rfl _ _ 24 24 rfl _ _ (by simp [Act.eval, Act.put]) (by simp [Act.eval, Act.put]) (hap _ (some ⟨g, 0, none⟩) 0) ?_)
      go_wp2_with (simp only [hc3])
      go_ret
      exact ⟨_, rfl, HO.out, HG.out, rfl⟩
    · go_enter Tryz.func120, Tryz.ntmps120
      go_upto_region 5 with fail
      go_region_law (refine step_appInM rfl _ _ 24 24 rfl _ _ (by simp [Act.eval, Act.put]) (by simp [Act.eval, Act.put]) (hap _ (some ⟨g, (i + 1) * 2, none⟩) (c - (i + 1))) ?_)
      go_wp2_with (simp only [hc3])
      go_ret
      exact ⟨_, rfl, HO.out, HG.out, rfl⟩
  · have hcn : ¬ (c = i + 1) := by omega
    have hap : ∀ ty cc, (Builtin.append_ #[24, 24] ty #[.slice (some ⟨g, 0, none⟩) i c, .slice (some ⟨g, (i + 1) * 2, none⟩) (n - (i + 1)) cc]).run Tryz.prog w.drew = .ok (.slice (some ⟨g, 0, none⟩) (n - 1) c) (w.drew.setCells g (i * 2) (vals (fun p => F ((i + 1) * 2 + p)) ((n - (i + 1)) * 2))) := fun ty cc => by
      have := run_appInM w.drew 24 ty 61 i0 2 Tryz.underlying24 hi0 hzs g i c ⟨g, (i + 1) * 2, none⟩ (n - (i + 1)) cc (vals (fun p => F ((i + 1) * 2 + p)) ((n - (i + 1)) * 2)) (by rw [vals_length]) (fun j v hj => by obtain ⟨h1, rfl⟩ := vals_inv hj; rw [Addr.add_lit]; exact hF _ (by omega)) (fun j hj => by rw [vals_length] at hj; exact hb.any (by omega)) (fun j hj => hb.frozen _) (vals_one _ _) (by omega)
      rwa [show i + (n - (i + 1)) = n - 1 by omega] at this
    obtain ⟨W1, hW1⟩ : ∃ W1, W1 = w.drew.setCells g (i * 2) (vals (fun p => F ((i + 1) * 2 + p)) ((n - (i + 1)) * 2)) := ⟨_, rfl⟩
    rw [← hW1] at hap
    have hbW : Blkk W1 g 61 (c * 2) := by rw [hW1]; exact Blkk.sets _ _ _ hb
    obtain ⟨w3, hc3, ⟨hM3, hk3⟩, hg3⟩ := hcl W1 hbW
    have HF : Hid (∀ p, p < (n - 1) * 2 → w3.cell? ⟨g, p, none⟩ = some (.int .i64 (dropF F 2 i p))) := fun p hp => by
      rw [hk3 p hp, hW1]
      unfold dropF
      by_cases hpi : p < i * 2
      · rw [if_pos hpi, World.cell?_setCells_out g _ _ _ _ (fun _ _ => Or.inl hpi), drew_cell]
        exact hF p (by omega)
      · rw [if_neg hpi]
        have := sets_in g (i * 2) ((n - (i + 1)) * 2) (fun p => F ((i + 1) * 2 + p)) w.drew (fun j hj => hb.drew.any (by omega)) (p := p - i * 2) (by omega)
        rw [show i * 2 + (p - i * 2) = p by omega, show (i + 1) * 2 + (p - i * 2) = p + 2 by omega] at this
        exact this
    have HO : Hid (Own w3 B 61 2 (n - 1) (dropF F 2 i) (.slice (some ⟨g, 0, none⟩) (n - 1) c)) := own_of hM3 hg (by omega) hcm HF.out
    have HG : Hid (w.grownBy w3 (some g)) := grown_trans (grown_trans (grown_drew w _) (by rw [hW1]; exact grown_sets g _ _ _)) hg3
    clear hF hb hM3 hk3 hg3 hcl HF h hg hcm hW1 hbW
    go_enter Tryz.func120, Tryz.ntmps120
    go_upto_region 5 with fail
    go_region_law (refine step_appInM rfl _ _ 24 24 rfl _ _ (by simp [Act.eval, Act.put]) (by simp [Act.eval, Act.put]) (hap _ (c - (i + 1))) ?_)
    go_wp2_with (simp only [hc3])
    go_ret
    exact ⟨_, rfl, HO.out, HG.out, rfl⟩
end Go.Proofs.YtnchaccgenfhoaaGreat

namespace Go.Proofs.YtnchaccgenfhoaaGreat
open Go.RowKit

theorem make_rowP {P : Program} {t e : TypeId} {z : Value} {size bytes : Nat} (ht : P.underlying t = some (.slice e)) (hinfo : (P.info? e).map (fun i => (i.zero, i.size, i.bytes)) = some (some z, size, bytes)) (n : Nat) (hn : bytes * n ≤ 281474976710656) (hm : n ≤ 9223372036854775807) (w : World) :
    (Instr.makeSlice t (.int .i64 (n : Int)) (.int .i64 (n : Int))).run P w = .ok (.slice (some ⟨w.heap.size, 0, none⟩) n n) (w.alloc (.cells (madeCells z.cells (n * size)) e)) := by
  obtain ⟨i, hi, hz, hs, hb⟩ := info_parts hinfo
  have hb' : (i.bytes : Int) * (n : Int) ≤ 281474976710656 := by
    have h : ((i.bytes * n : Nat) : Int) ≤ 281474976710656 := by rw [hb]; omega
    rwa [Int.natCast_mul] at h
  have hr := run_make (P := P) w t e i z ht hi hz .i64 .i64 n n (by omega) (Int.le_refl _) hb' (by omega)
  simp only [Int.toNat_natCast, hs] at hr
  exact hr

end Go.Proofs.YtnchaccgenfhoaaGreat

namespace Go.Proofs.YtnchaccgenfhoaaGreat
open Go.RowKit

/-- What is told of the pair at place k. -/
def pairF (F : Nat → Int) (k : Nat) : Int := if faultOf (F (k * 2)) ≠ 0 then faultOf (F (k * 2)) else if ¬ (0 ≤ F (k * 2 + 1) ∧ F (k * 2 + 1) ≤ 9999) then 3 else if 0 < k ∧ F (k * 2) ≤ F ((k - 1) * 2) then 1 else 0
/-- What is told of m pairs from place k on. -/
def pairsF (F : Nat → Int) : Nat → Nat → Int
  | 0, _ => 0
  | m + 1, k => if pairF F k ≠ 0 then pairF F k else pairsF F m (k + 1)
theorem pairsF_bad {F : Nat → Int} {m k : Nat} {f : Int} (hm : 0 < m) (h : pairF F k = f) (h0 : f ≠ 0) : pairsF F m k = f := by
  obtain ⟨m, rfl⟩ : ∃ q, m = q + 1 := ⟨m - 1, by omega⟩
  rw [pairsF, if_pos (by rw [h]; exact h0), h]
theorem pairsF_on {F : Nat → Int} {m k : Nat} (hm : 0 < m) (h : pairF F k = 0) : pairsF F m k = pairsF F (m - 1) (k + 1) := by
  obtain ⟨m, rfl⟩ : ∃ q, m = q + 1 := ⟨m - 1, by omega⟩
  rw [pairsF, if_neg (fun q => q h)]; rfl
theorem pairF_key {F : Nat → Int} {k : Nat} {n0 : Int} (h0 : F (k * 2) = n0) (h : faultOf n0 ≠ 0) : pairF F k = faultOf n0 := by unfold pairF; rw [h0, if_pos h]
theorem pairF_val {F : Nat → Int} {k : Nat} {n0 n1 : Int} (h0 : F (k * 2) = n0) (h1 : F (k * 2 + 1) = n1) (h : faultOf n0 = 0) (h2 : ¬ (0 ≤ n1 ∧ n1 ≤ 9999)) : pairF F k = 3 := by unfold pairF; rw [h0, h1, if_neg (fun q => q h), if_pos h2]
theorem pairF_form {F : Nat → Int} {k : Nat} {n0 n1 p : Int} (h0 : F (k * 2) = n0) (h1 : F (k * 2 + 1) = n1) (hp : F ((k - 1) * 2) = p) (h : faultOf n0 = 0) (h2 : 0 ≤ n1 ∧ n1 ≤ 9999) (hk : 0 < k) (h3 : n0 ≤ p) : pairF F k = 1 := by unfold pairF; rw [h0, h1, hp, if_neg (fun q => q h), if_neg (fun q => q h2), if_pos ⟨hk, h3⟩]
theorem pairF_ok {F : Nat → Int} {k : Nat} {n0 n1 p : Int} (h0 : F (k * 2) = n0) (h1 : F (k * 2 + 1) = n1) (hp : F ((k - 1) * 2) = p) (h : faultOf n0 = 0) (h2 : 0 ≤ n1 ∧ n1 ≤ 9999) (h3 : ¬ (0 < k ∧ n0 ≤ p)) : pairF F k = 0 := by unfold pairF; rw [h0, h1, hp, if_neg (fun q => q h), if_neg (fun q => q h2), if_neg h3]

set_option maxRecDepth 100000 in
set_option maxHeartbeats 4000000 in
theorem specPairs_any (v : Value) (B n : Nat) (F : Nat → Int) (w : World) (h : Row w B 2 n F v) (hn : n ≤ 1048576) :
    Calls Tryz.prog 52 #[v] w fun e w' => e = .returned (.int .i64 (pairsF F n 0)) ∧ Below w.heap.size w w' := by
  obtain ⟨ao, cp, rfl⟩ := h.form
  have H : Hid (Row w B 2 n F (.slice ao n cp)) := h
  clear h
  obtain ⟨f, hf⟩ : ∃ f, pairsF F n 0 = f := ⟨_, rfl⟩
  have HF : Hid (pairsF F n 0 = f) := hf
  rw [hf]
  clear hf
  go_enter Tryz.func52, Tryz.ntmps52
  go_wp2
  go_loopw [3] (fun i wr => ∃ k : Nat, k ≤ n ∧ i = .int .i64 k ∧ Hid (pairsF F (n - k) k = f) ∧ Hid (Below w.heap.size w wr)) (fun i _ => n - (intOf i).toNat)
  case atStart => exact ⟨0, Nat.zero_le _, rfl, HF, Below.refl _ _⟩
  case round =>
    obtain ⟨k, hk, rfl, HS, HB⟩ := hrel
    by_cases hlt : k < n
    case neg =>
      have en : n - k = 0 := by omega
      have E : Hid (f = 0) := by
        have := HS.out
        rw [en, pairsF] at this
        exact this.symm
      clear HS HF
      go_wp2
      go_ret
      exact ⟨by rw [E.out]; rfl, HB.out⟩
    have hrow := H.out.later HB.out
    obtain ⟨g, o, rfl, _, hg, x0, x1⟩ := hrow.at2 hlt
    have hm : Hid (0 < n - k ∧ n - k - 1 = n - (k + 1)) := ⟨by omega, by omega⟩
    obtain ⟨n0, N0⟩ : ∃ x, F (k * 2) = x := ⟨_, rfl⟩
    rw [N0] at x0
    obtain ⟨n1, N1⟩ : ∃ x, F (k * 2 + 1) = x := ⟨_, rfl⟩
    rw [N1] at x1
    have NN : Hid (F (k * 2) = n0 ∧ F (k * 2 + 1) = n1) := ⟨N0, N1⟩
    clear N0 N1
    by_cases h5 : faultOf n0 = 0
    case neg =>
      obtain ⟨q, hq⟩ : ∃ q, faultOf n0 = q := ⟨_, rfl⟩
      have HQ : Hid (faultOf n0 = q) := hq
      have E : Hid (f = q) := by
        have E0 := HS.out
        rw [pairsF_bad (f := q) hm.out.1 (by rw [pairF_key NN.out.1 h5]; exact hq) (by rw [← hq]; exact h5)] at E0
        exact E0.symm
      have d : (q != 0) = true := bne_iff_ne.2 (by rw [← hq]; exact h5)
      clear h5 hq HS HF
      go_wp2_with fail
      refine (l1Fault_any _ _).mono ?_
      rintro e w9 ⟨rfl, hw9⟩
      obtain rfl := hw9.symm
      rw [HQ.out]
      go_wp2
      go_ret
      refine ⟨by rw [E.out]; rfl, ?_⟩
      repeat (first | exact Below.refl _ _ | exact HB.out | refine below_dn ?_ _ | refine Below.setCell ?_ (by first | omega | (simp <;> omega) | (have := HB.out.size; simp <;> omega)) _ | refine Below.alloc ?_ (by first | omega | (simp <;> omega) | (have := HB.out.size; simp <;> omega)) _)
    have HK : Hid (faultOf n0 = 0) := h5
    clear h5
    by_cases h6 : 0 ≤ n1 ∧ n1 ≤ 9999
    case neg =>
      have E : Hid (f = 3) := by
        have E0 := HS.out
        rw [pairsF_bad (f := 3) hm.out.1 (pairF_val NN.out.1 NN.out.2 HK.out h6) (by omega)] at E0
        exact E0.symm
      have HV : Hid (decide ((0 : Int) ≤ n1 ∧ n1 ≤ 9999) = false) := decide_eq_false h6
      clear h6 HS HF
      go_wp2_with fail
      refine (l1Fault_any _ _).mono ?_
      rintro e w9 ⟨rfl, hw9⟩
      obtain rfl := hw9.symm
      rw [HK.out]
      go_wp2_with fail
      refine (inT_is _ _ _ false HV.out _).mono ?_
      rintro e w9 ⟨rfl, hw9⟩
      obtain rfl := hw9.symm
      go_wp2
      go_ret
      exact ⟨by rw [E.out]; rfl, HB.out⟩
    have HV : Hid (decide ((0 : Int) ≤ n1 ∧ n1 ≤ 9999) = true) := decide_eq_true h6
    rcases Nat.eq_zero_or_pos k with hk0 | hk0
    · have E : Hid (pairsF F (n - (k + 1)) (k + 1) = f) := by
        have E0 := HS.out
        rw [pairsF_on hm.out.1 (pairF_ok NN.out.1 NN.out.2 rfl HK.out h6 (fun q => absurd q.1 (by omega))), hm.out.2] at E0
        exact E0
      clear h6 HS HF
      subst hk0
      simp only [Nat.zero_mul, Nat.add_zero] at x0 x1
      go_wp2_with fail
      refine (l1Fault_any _ _).mono ?_
      rintro e w9 ⟨rfl, hw9⟩
      obtain rfl := hw9.symm
      rw [HK.out]
      go_wp2_with fail
      refine (inT_is _ _ _ true HV.out _).mono ?_
      rintro e w9 ⟨rfl, hw9⟩
      obtain rfl := hw9.symm
      go_wp2_with fail
      go_quiet (fail)
      go_wp2
      go_roundw
      case rel =>
        refine ⟨0 + 1, by omega, by go_num, E, ?_⟩
        show Below _ _ _
        repeat (first | exact Below.refl _ _ | exact HB.out | refine below_dn ?_ _ | refine Below.setCell ?_ (by first | omega | (simp <;> omega) | (have := HB.out.size; simp <;> omega)) _ | refine Below.alloc ?_ (by first | omega | (simp <;> omega) | (have := HB.out.size; simp <;> omega)) _)
      case measure => simp [intOf]; omega
    obtain ⟨g', o', hgo, _, _, p0, p1⟩ := hrow.at2 (k := k - 1) (by omega)
    obtain ⟨rfl, rfl⟩ : g = g' ∧ o = o' := by simpa using hgo
    obtain ⟨p, P⟩ : ∃ x, F ((k - 1) * 2) = x := ⟨_, rfl⟩
    rw [P] at p0
    have hsub : ((k : Int) - 1) = ((k - 1 : Nat) : Int) := by omega
    have hlt' : k - 1 < n := by omega
    have d : decide ((k : Int) > 0) = true := decide_eq_true (by omega)
    clear hgo p1 hrow
    by_cases h7 : n0 ≤ p
    · have E : Hid (f = 1) := by
        have E0 := HS.out
        rw [pairsF_bad (f := 1) hm.out.1 (pairF_form NN.out.1 NN.out.2 P HK.out h6 hk0 h7) (by omega)] at E0
        exact E0.symm
      clear h6 HS HF
      go_wp2_with fail
      refine (l1Fault_any _ _).mono ?_
      rintro e w9 ⟨rfl, hw9⟩
      obtain rfl := hw9.symm
      rw [HK.out]
      go_wp2_with fail
      refine (inT_is _ _ _ true HV.out _).mono ?_
      rintro e w9 ⟨rfl, hw9⟩
      obtain rfl := hw9.symm
      go_wp2_with fail
      go_quiet (fail)
      go_wp2
      go_ret
      refine ⟨by rw [E.out]; rfl, ?_⟩
      repeat (first | exact Below.refl _ _ | exact HB.out | refine below_dn ?_ _ | refine Below.setCell ?_ (by first | omega | (simp <;> omega) | (have := HB.out.size; simp <;> omega)) _ | refine Below.alloc ?_ (by first | omega | (simp <;> omega) | (have := HB.out.size; simp <;> omega)) _)
    · have E : Hid (pairsF F (n - (k + 1)) (k + 1) = f) := by
        have E0 := HS.out
        rw [pairsF_on hm.out.1 (pairF_ok NN.out.1 NN.out.2 P HK.out h6 (fun q => h7 q.2)), hm.out.2] at E0
        exact E0
      clear h6 HS HF
      go_wp2_with fail
      refine (l1Fault_any _ _).mono ?_
      rintro e w9 ⟨rfl, hw9⟩
      obtain rfl := hw9.symm
      rw [HK.out]
      go_wp2_with fail
      refine (inT_is _ _ _ true HV.out _).mono ?_
      rintro e w9 ⟨rfl, hw9⟩
      obtain rfl := hw9.symm
      go_wp2_with fail
      go_quiet (fail)
      go_wp2
      go_roundw
      case rel =>
        refine ⟨k + 1, by omega, by go_num, E, ?_⟩
        show Below _ _ _
        repeat (first | exact Below.refl _ _ | exact HB.out | refine below_dn ?_ _ | refine Below.setCell ?_ (by first | omega | (simp <;> omega) | (have := HB.out.size; simp <;> omega)) _ | refine Below.alloc ?_ (by first | omega | (simp <;> omega) | (have := HB.out.size; simp <;> omega)) _)
      case measure => simp [intOf]; omega
end Go.Proofs.YtnchaccgenfhoaaGreat

namespace Go.Proofs.YtnchaccgenfhoaaGreat
open Go.RowKit

theorem comparePairs_is (a b c d r : Int) (hr : cmpOf a c = r) (w : World) :
    Calls Tryz.prog 63 #[.agg #[.int .i64 a, .int .i64 b], .agg #[.int .i64 c, .int .i64 d]] w fun e w' => e = .returned (.int .i64 r) ∧ Below w.heap.size w w' := by
  have HR : Hid (cmpOf a c = r) := hr
  clear hr
  go_enter Tryz.func63, Tryz.ntmps63
  go_wp2_with fail
  refine (compare_is _ _ r HR.out _).mono ?_
  rintro e w9 ⟨rfl, hw9⟩
  obtain rfl := hw9.symm
  go_wp2
  go_ret
  exact ⟨rfl, (below_alloc _ _).alloc (by simp) _⟩
theorem cmpOf_geq {p n0 : Int} (h : n0 ≤ p) : decide (cmpOf p n0 ≥ 0) = true := by
  unfold cmpOf
  rw [if_neg (by omega)]
  split <;> exact decide_eq_true (by omega)
theorem cmpOf_lt {p n0 : Int} (h : ¬ n0 ≤ p) : decide (cmpOf p n0 ≥ 0) = false := by
  unfold cmpOf
  rw [if_pos (by omega)]
  exact decide_eq_false (by omega)
/-- The pair ahead in its row, the pair in its box, and that nothing old has turned. -/
def TwoP (w : World) (g o b : Nat) (p0 p1 n0 n1 : Int) (x : World) : Prop := (x.cell? ⟨g, o, none⟩ = some (.int .i64 p0) ∧ x.cell? ⟨g, o + 1, none⟩ = some (.int .i64 p1) ∧ x.cell? ⟨b, 0, none⟩ = some (.int .i64 n0) ∧ x.cell? ⟨b, 1, none⟩ = some (.int .i64 n1)) ∧ Below w.heap.size w x
theorem TwoP.later {w x x' : World} {g o b : Nat} {p0 p1 n0 n1 : Int} (h : TwoP w g o b p0 p1 n0 n1 x) (hb : Below x.heap.size x x') : TwoP w g o b p0 p1 n0 n1 x' := by
  obtain ⟨⟨h0, h1, h2, h3⟩, hy⟩ := h
  exact ⟨⟨(hb.cell (World.block_lt_of_cell? x _ h0)).trans h0, (hb.cell (World.block_lt_of_cell? x _ h1)).trans h1, (hb.cell (World.block_lt_of_cell? x _ h2)).trans h2, (hb.cell (World.block_lt_of_cell? x _ h3)).trans h3⟩, hy.trans (hb.mono hy.size)⟩
set_option maxRecDepth 100000 in
set_option maxHeartbeats 4000000 in
theorem implPairs_any (v : Value) (B n : Nat) (F : Nat → Int) (w : World) (h : Row w B 2 n F v) (hn : n ≤ 1048576) :
    Calls Tryz.prog 27 #[v] w fun e w' => e = .returned (.int .i64 (pairsF F n 0)) ∧ Below w.heap.size w w' := by
  obtain ⟨ao, cp, rfl⟩ := h.form
  have H : Hid (Row w B 2 n F (.slice ao n cp)) := h
  clear h
  obtain ⟨f, hf⟩ : ∃ f, pairsF F n 0 = f := ⟨_, rfl⟩
  have HF : Hid (pairsF F n 0 = f) := hf
  rw [hf]
  clear hf
  go_enter Tryz.func27, Tryz.ntmps27
  go_wp2
  go_loopw [8] (fun i wr => ∃ k : Nat, k ≤ n ∧ i = .int .i64 k ∧ Hid (pairsF F (n - k) k = f) ∧ Hid (Below w.heap.size w wr)) (fun i _ => n - (intOf i).toNat)
  case atStart => exact ⟨0, Nat.zero_le _, rfl, HF, Below.refl _ _⟩
  case round =>
    obtain ⟨k, hk, rfl, HS, HB⟩ := hrel
    by_cases hlt : k < n
    case neg =>
      have en : n - k = 0 := by omega
      have E : Hid (f = 0) := by
        have := HS.out
        rw [en, pairsF] at this
        exact this.symm
      clear HS HF
      go_wp2
      go_ret
      exact ⟨by rw [E.out]; rfl, HB.out⟩
    have hrow := H.out.later HB.out
    obtain ⟨g, o, rfl, _, hg, x0, x1⟩ := hrow.at2 hlt
    have hm : Hid (0 < n - k ∧ n - k - 1 = n - (k + 1)) := ⟨by omega, by omega⟩
    obtain ⟨n0, N0⟩ : ∃ x, F (k * 2) = x := ⟨_, rfl⟩
    rw [N0] at x0
    obtain ⟨n1, N1⟩ : ∃ x, F (k * 2 + 1) = x := ⟨_, rfl⟩
    rw [N1] at x1
    have NN : Hid (F (k * 2) = n0 ∧ F (k * 2 + 1) = n1) := ⟨N0, N1⟩
    clear N0 N1
    by_cases h5 : faultOf n0 = 0
    case neg =>
      obtain ⟨q, hq⟩ : ∃ q, faultOf n0 = q := ⟨_, rfl⟩
      have HQ : Hid (faultOf n0 = q) := hq
      have E : Hid (f = q) := by
        have E0 := HS.out
        rw [pairsF_bad (f := q) hm.out.1 (by rw [pairF_key NN.out.1 h5]; exact hq) (by rw [← hq]; exact h5)] at E0
        exact E0.symm
      have d : (q != 0) = true := bne_iff_ne.2 (by rw [← hq]; exact h5)
      clear h5 hq HS HF
      go_wp2_with fail
      refine (keyFault_any _ _).mono ?_
      rintro e w9 ⟨rfl, hw9⟩
      obtain rfl := hw9.symm
      rw [HQ.out]
      go_wp2
      go_ret
      refine ⟨by rw [E.out]; rfl, ?_⟩
      repeat (first | exact Below.refl _ _ | exact HB.out | refine below_dn ?_ _ | refine Below.setCell ?_ (by first | omega | (simp <;> omega) | (have := HB.out.size; simp <;> omega)) _ | refine Below.alloc ?_ (by first | omega | (simp <;> omega) | (have := HB.out.size; simp <;> omega)) _)
    have HK : Hid (faultOf n0 = 0) := h5
    clear h5
    by_cases h6 : 0 ≤ n1 ∧ n1 ≤ 9999
    case neg =>
      have E : Hid (f = 3) := by
        have E0 := HS.out
        rw [pairsF_bad (f := 3) hm.out.1 (pairF_val NN.out.1 NN.out.2 HK.out h6) (by omega)] at E0
        exact E0.symm
      have HV : Hid (decide ((0 : Int) ≤ n1 ∧ n1 ≤ 9999) = false) := decide_eq_false h6
      clear h6 HS HF
      go_wp2_with fail
      refine (keyFault_any _ _).mono ?_
      rintro e w9 ⟨rfl, hw9⟩
      obtain rfl := hw9.symm
      rw [HK.out]
      go_wp2_with fail
      refine (isValueT_is _ false HV.out _).mono ?_
      rintro e w9 ⟨rfl, hw9⟩
      obtain rfl := hw9.symm
      go_wp2
      go_ret
      refine ⟨by rw [E.out]; rfl, ?_⟩
      repeat (first | exact Below.refl _ _ | exact HB.out | refine below_dn ?_ _ | refine Below.setCell ?_ (by first | omega | (simp <;> omega) | (have := HB.out.size; simp <;> omega)) _ | refine Below.alloc ?_ (by first | omega | (simp <;> omega) | (have := HB.out.size; simp <;> omega)) _)
    have HV : Hid (decide ((0 : Int) ≤ n1 ∧ n1 ≤ 9999) = true) := decide_eq_true h6
    rcases Nat.eq_zero_or_pos k with hk0 | hk0
    · have E : Hid (pairsF F (n - (k + 1)) (k + 1) = f) := by
        have E0 := HS.out
        rw [pairsF_on hm.out.1 (pairF_ok NN.out.1 NN.out.2 rfl HK.out h6 (fun q => absurd q.1 (by omega))), hm.out.2] at E0
        exact E0
      clear h6 HS HF
      subst hk0
      simp only [Nat.zero_mul, Nat.add_zero] at x0 x1
      go_wp2_with fail
      refine (keyFault_any _ _).mono ?_
      rintro e w9 ⟨rfl, hw9⟩
      obtain rfl := hw9.symm
      rw [HK.out]
      go_wp2_with fail
      refine (isValueT_is _ true HV.out _).mono ?_
      rintro e w9 ⟨rfl, hw9⟩
      obtain rfl := hw9.symm
      go_wp2_with fail
      go_quiet (fail)
      go_wp2
      go_roundw
      case rel =>
        refine ⟨0 + 1, by omega, by go_num, E, ?_⟩
        show Below _ _ _
        repeat (first | exact Below.refl _ _ | exact HB.out | refine below_dn ?_ _ | refine Below.setCell ?_ (by first | omega | (simp <;> omega) | (have := HB.out.size; simp <;> omega)) _ | refine Below.alloc ?_ (by first | omega | (simp <;> omega) | (have := HB.out.size; simp <;> omega)) _)
      case measure => simp [intOf]; omega
    obtain ⟨g', o', hgo, _, _, p0, p1⟩ := hrow.at2 (k := k - 1) (by omega)
    obtain ⟨rfl, rfl⟩ : g = g' ∧ o = o' := by simpa using hgo
    obtain ⟨p, P⟩ : ∃ x, F ((k - 1) * 2) = x := ⟨_, rfl⟩
    rw [P] at p0
    obtain ⟨p', P'⟩ : ∃ x, F ((k - 1) * 2 + 1) = x := ⟨_, rfl⟩
    rw [P'] at p1
    have hsub : ((k : Int) - 1) = ((k - 1 : Nat) : Int) := by omega
    have hwr : IntKind.i64.wrap ((k - 1 : Nat) : Int) = ((k - 1 : Nat) : Int) := by simp [IntKind.wrap, IntKind.bits, IntKind.signed]; omega
    have hlt' : k - 1 < n := by omega
    have d : decide ((k : Int) > 0) = true := decide_eq_true (by omega)
    clear hgo hrow P'
    by_cases h7 : n0 ≤ p
    · have E : Hid (f = 1) := by
        have E0 := HS.out
        rw [pairsF_bad (f := 1) hm.out.1 (pairF_form NN.out.1 NN.out.2 P HK.out h6 hk0 h7) (by omega)] at E0
        exact E0.symm
      have HC : Hid (decide (cmpOf p n0 ≥ 0) = true) := cmpOf_geq h7
      clear h6 HS HF
      go_wp2_with fail
      refine (keyFault_any _ _).mono ?_
      rintro e w9 ⟨rfl, hw9⟩
      obtain rfl := hw9.symm
      rw [HK.out]
      go_wp2_with fail
      refine (isValueT_is _ true HV.out _).mono ?_
      rintro e w9 ⟨rfl, hw9⟩
      obtain rfl := hw9.symm
      go_wp2_with fail
      refine wp_region_held_drew (S := TwoP w g (o + (k - 1) * 2) wr.heap.size p p' n0 n1) (by kernel_rfl) ?_ (fun hS => ?_)
      · refine ⟨⟨?_, ?_, ?_, ?_⟩, ?_⟩
        · go_simp
        · go_simp
        · go_simp
        · go_simp
        · refine Below.drew ?_
          repeat (first | exact Below.refl _ _ | exact HB.out | refine below_dn ?_ _ | refine Below.setCell ?_ (by first | omega | (simp <;> omega) | (have := HB.out.size; simp <;> omega)) _ | refine Below.alloc ?_ (by first | omega | (simp <;> omega) | (have := HB.out.size; simp <;> omega)) _)
      refine tkH 0 ?_ hS (fun wx hx => ?_) ?_; rotate_left
      · obtain ⟨⟨hx0, hx1, hx2, hx3⟩, _⟩ := hx; go_simp; try with_reducible rfl
      refine tkH 1 ?_ hS (fun wx hx => ?_) ?_; rotate_left
      · obtain ⟨⟨hx0, hx1, hx2, hx3⟩, _⟩ := hx; go_simp; try with_reducible rfl
      refine tkH 2 ?_ hS (fun wx hx => ?_) ?_; rotate_left
      · obtain ⟨⟨hx0, hx1, hx2, hx3⟩, _⟩ := hx; go_simp; try with_reducible rfl
      refine tkH 3 ?_ hS (fun wx hx => ?_) ?_; rotate_left
      · obtain ⟨⟨hx0, hx1, hx2, hx3⟩, _⟩ := hx; go_simp; try with_reducible rfl
      refine tkH 4 ?_ hS (fun wx hx => ?_) ?_; rotate_left
      · obtain ⟨⟨hx0, hx1, hx2, hx3⟩, _⟩ := hx; go_simp; try with_reducible rfl
      refine tkH 5 ?_ hS (fun wx hx => ?_) ?_; rotate_left
      · obtain ⟨⟨hx0, hx1, hx2, hx3⟩, _⟩ := hx; go_simp; try with_reducible rfl
      refine tkH 6 ?_ hS (fun wx hx => ?_) ?_; rotate_left
      · obtain ⟨⟨hx0, hx1, hx2, hx3⟩, _⟩ := hx; go_simp; try with_reducible rfl
      refine tkH 7 ?_ hS (fun wx hx => ?_) ?_; rotate_left
      · obtain ⟨⟨hx0, hx1, hx2, hx3⟩, _⟩ := hx; go_simp; try with_reducible rfl
      refine tkH 8 ?_ hS (fun wx hx => ?_) ?_; rotate_left
      · obtain ⟨⟨hx0, hx1, hx2, hx3⟩, _⟩ := hx; go_simp; try with_reducible rfl
      refine rdH 9 (fun K hK => ?_)
      go_simp
      go_wp2_with fail
      refine (comparePairs_is _ _ _ _ (cmpOf p n0) rfl _).mono ?_
      rintro e w2 ⟨rfl, q2⟩
      go_wp2_with fail
      refine hK.out _ _ (hS.later q2) (fun hS => ?_)
      clear hK K q2
      refine tkH 10 ?_ hS (fun wx hx => ?_) ?_; rotate_left
      · obtain ⟨⟨hx0, hx1, hx2, hx3⟩, _⟩ := hx; go_simp; try with_reducible rfl
      rw [HC.out]
      refine tkH 11 ?_ hS (fun wx hx => ?_) ?_; rotate_left
      · obtain ⟨⟨hx0, hx1, hx2, hx3⟩, _⟩ := hx; go_simp; try with_reducible rfl
      refine wpAnyH_done (by kernel_rfl) ?_ _
      go_simp
      go_wp2
      go_ret
      exact ⟨by rw [E.out]; rfl, hS.2⟩
    · have E : Hid (pairsF F (n - (k + 1)) (k + 1) = f) := by
        have E0 := HS.out
        rw [pairsF_on hm.out.1 (pairF_ok NN.out.1 NN.out.2 P HK.out h6 (fun q => h7 q.2)), hm.out.2] at E0
        exact E0
      have HC : Hid (decide (cmpOf p n0 ≥ 0) = false) := cmpOf_lt h7
      clear h6 HS HF
      go_wp2_with fail
      refine (keyFault_any _ _).mono ?_
      rintro e w9 ⟨rfl, hw9⟩
      obtain rfl := hw9.symm
      rw [HK.out]
      go_wp2_with fail
      refine (isValueT_is _ true HV.out _).mono ?_
      rintro e w9 ⟨rfl, hw9⟩
      obtain rfl := hw9.symm
      go_wp2_with fail
      refine wp_region_held_drew (S := TwoP w g (o + (k - 1) * 2) wr.heap.size p p' n0 n1) (by kernel_rfl) ?_ (fun hS => ?_)
      · refine ⟨⟨?_, ?_, ?_, ?_⟩, ?_⟩
        · go_simp
        · go_simp
        · go_simp
        · go_simp
        · refine Below.drew ?_
          repeat (first | exact Below.refl _ _ | exact HB.out | refine below_dn ?_ _ | refine Below.setCell ?_ (by first | omega | (simp <;> omega) | (have := HB.out.size; simp <;> omega)) _ | refine Below.alloc ?_ (by first | omega | (simp <;> omega) | (have := HB.out.size; simp <;> omega)) _)
      refine tkH 0 ?_ hS (fun wx hx => ?_) ?_; rotate_left
      · obtain ⟨⟨hx0, hx1, hx2, hx3⟩, _⟩ := hx; go_simp; try with_reducible rfl
      refine tkH 1 ?_ hS (fun wx hx => ?_) ?_; rotate_left
      · obtain ⟨⟨hx0, hx1, hx2, hx3⟩, _⟩ := hx; go_simp; try with_reducible rfl
      refine tkH 2 ?_ hS (fun wx hx => ?_) ?_; rotate_left
      · obtain ⟨⟨hx0, hx1, hx2, hx3⟩, _⟩ := hx; go_simp; try with_reducible rfl
      refine tkH 3 ?_ hS (fun wx hx => ?_) ?_; rotate_left
      · obtain ⟨⟨hx0, hx1, hx2, hx3⟩, _⟩ := hx; go_simp; try with_reducible rfl
      refine tkH 4 ?_ hS (fun wx hx => ?_) ?_; rotate_left
      · obtain ⟨⟨hx0, hx1, hx2, hx3⟩, _⟩ := hx; go_simp; try with_reducible rfl
      refine tkH 5 ?_ hS (fun wx hx => ?_) ?_; rotate_left
      · obtain ⟨⟨hx0, hx1, hx2, hx3⟩, _⟩ := hx; go_simp; try with_reducible rfl
      refine tkH 6 ?_ hS (fun wx hx => ?_) ?_; rotate_left
      · obtain ⟨⟨hx0, hx1, hx2, hx3⟩, _⟩ := hx; go_simp; try with_reducible rfl
      refine tkH 7 ?_ hS (fun wx hx => ?_) ?_; rotate_left
      · obtain ⟨⟨hx0, hx1, hx2, hx3⟩, _⟩ := hx; go_simp; try with_reducible rfl
      refine tkH 8 ?_ hS (fun wx hx => ?_) ?_; rotate_left
      · obtain ⟨⟨hx0, hx1, hx2, hx3⟩, _⟩ := hx; go_simp; try with_reducible rfl
      refine rdH 9 (fun K hK => ?_)
      go_simp
      go_wp2_with fail
      refine (comparePairs_is _ _ _ _ (cmpOf p n0) rfl _).mono ?_
      rintro e w2 ⟨rfl, q2⟩
      go_wp2_with fail
      refine hK.out _ _ (hS.later q2) (fun hS => ?_)
      clear hK K q2
      refine tkH 10 ?_ hS (fun wx hx => ?_) ?_; rotate_left
      · obtain ⟨⟨hx0, hx1, hx2, hx3⟩, _⟩ := hx; go_simp; try with_reducible rfl
      rw [HC.out]
      refine tkH 11 ?_ hS (fun wx hx => ?_) ?_; rotate_left
      · obtain ⟨⟨hx0, hx1, hx2, hx3⟩, _⟩ := hx; go_simp; try with_reducible rfl
      refine wpAnyH_done (by kernel_rfl) ?_ _
      go_simp
      go_wp2
      go_roundw
      case rel => exact ⟨k + 1, by omega, by go_num, E, hS.2⟩
      case measure => simp [intOf]; omega
end Go.Proofs.YtnchaccgenfhoaaGreat

namespace Go.Proofs.YtnchaccgenfhoaaGreat
open Go.RowKit

theorem lt_cellP {w : World} {p : Addr} {v : Value} (h : w.cell? p = some v) : p.block < w.heap.size := World.block_lt_of_cell? w p h
/-- The place of something in a row: all ahead of it is so, and what stands there is not. -/
def placeAtP (p : Nat → Prop) (n k : Nat) : Prop := k ≤ n ∧ (∀ j, j < k → p j) ∧ (k < n → ¬ p k)
def aheadP (F : Nat → Int) (a : Int) (j : Nat) : Prop := F (j * 2) < a
def AP (w : World) (B n : Nat) (F : Nat → Int) (ao : Option Addr) (cp : Nat) (x0 x1 : Int) (X : World) : Prop :=
  (X.cell? ⟨w.heap.size, 0, none⟩ = some (.int .i64 x0) ∧ X.cell? ⟨w.heap.size, 1, none⟩ = some (.int .i64 x1)) ∧ Row X B 2 n F (.slice ao n cp) ∧ Below w.heap.size w X
theorem AP.drew {w X : World} {B n : Nat} {F : Nat → Int} {ao : Option Addr} {cp : Nat} {x0 x1 : Int} (h : AP w B n F ao cp x0 x1 X) : AP w B n F ao cp x0 x1 X.drew := ⟨h.1, h.2.1, h.2.2.drew⟩
theorem AP.later {w X X' : World} {B n : Nat} {F : Nat → Int} {ao : Option Addr} {cp : Nat} {x0 x1 : Int} (h : AP w B n F ao cp x0 x1 X) (_ : Row w B 2 n F (.slice ao n cp)) (hb : Below X.heap.size X X') : AP w B n F ao cp x0 x1 X' :=
  ⟨⟨(hb.cell (lt_cellP h.1.1)).trans h.1.1, (hb.cell (lt_cellP h.1.2)).trans h.1.2⟩, h.2.1.later hb, h.2.2.trans (hb.mono h.2.2.size)⟩
theorem cmp_negP (a x : Int) : cmpOf a x < 0 ↔ a < x := by
  unfold cmpOf
  constructor
  · intro h
    by_cases h1 : a < x
    · exact h1
    · simp [h1] at h
      split at h <;> omega
  · intro h
    simp [h]
theorem cmp_zeroP (a x : Int) : cmpOf a x = 0 ↔ a = x := by
  unfold cmpOf
  constructor
  · intro h
    by_cases h1 : a < x
    · simp [h1] at h
    · by_cases h2 : x < a
      · simp [h1, h2] at h
      · omega
  · rintro rfl
    simp
/-- What the search answers. -/
def FoundP (w : World) (n : Nat) (F : Nat → Int) (x0 : Int) (e : Ending) (w' : World) : Prop := ∃ (k : Nat) (r : Bool), e = .returned (.tuple #[.int .i64 k, .bool r]) ∧ placeAtP (aheadP F x0) n k ∧ (r = true ↔ k < n ∧ F (k * 2) = x0) ∧ Below w.heap.size w w'
set_option maxRecDepth 100000 in
set_option maxHeartbeats 4000000 in
theorem searchP_any (n : Nat) (F : Nat → Int) (ao : Option Addr) (cp : Nat) (B : Nat) (x0 x1 : Int) (w : World) (h : Row w B 2 n F (.slice ao n cp)) (hn : n ≤ 1000) (hmono : ∀ i j, i ≤ j → j < n → aheadP F x0 j → aheadP F x0 i) :
    Calls Tryz.prog 111 #[.slice ao n cp, .agg #[.int .i64 x0, .int .i64 x1], .func (.func 63) #[] #[]] w (FoundP w n F x0) := by
  have H : Hid (Row w B 2 n F (.slice ao n cp)) := h
  have HM : Hid (∀ i j, i ≤ j → j < n → aheadP F x0 j → aheadP F x0 i) := hmono
  clear h hmono
  go_enter Tryz.func111, Tryz.ntmps111
  go_wp2
  go_loopw [9, 10] (fun a b wr => ∃ i j : Nat, i ≤ j ∧ j ≤ n ∧ a = .int .i64 i ∧ b = .int .i64 j ∧ Hid (∀ q, q < i → aheadP F x0 q) ∧ Hid (∀ q, j ≤ q → q < n → ¬ aheadP F x0 q) ∧ Hid (AP w B n F ao cp x0 x1 wr)) (fun a b _ => (intOf b).toNat - (intOf a).toNat)
  case atStart =>
    refine ⟨0, n, Nat.zero_le _, Nat.le_refl _, rfl, rfl, fun q hq => absurd hq (Nat.not_lt_zero q), fun q h1 h2 => absurd h2 (Nat.not_lt.2 h1), ?_⟩
    exact ⟨⟨World.cell?_alloc_mark w _ _ _ 0, World.cell?_alloc_mark w _ _ _ 1⟩, H.out.alloc _, below_alloc _ _⟩
  case round =>
    obtain ⟨i, j, hij, hj, rfl, rfl, HA, HB, HS⟩ := hrel
    by_cases hlt : i < j
    case neg =>
      obtain rfl : i = j := by omega
      have HP : Hid (placeAtP (aheadP F x0) n i) := ⟨hj, HA.out, fun q => HB.out i (Nat.le_refl _) q⟩
      clear HA HB hij hlt
      go_upto_region 8 with fail
      by_cases hin : i < n
      · obtain ⟨g, o, hao, _, hg, y0, y1⟩ := HS.out.2.1.at2 hin
        subst hao
        obtain ⟨n0, N0⟩ : ∃ x, F (i * 2) = x := ⟨_, rfl⟩
        rw [N0] at y0
        obtain ⟨n1, N1⟩ : ∃ x, F (i * 2 + 1) = x := ⟨_, rfl⟩
        rw [N1] at y1
        have HN : Hid (F (i * 2) = n0) := N0
        clear N0 N1
        have dn : decide (i < n) = true := decide_eq_true hin
        refine wp_region_held_drew (S := fun X => (X.cell? ⟨w.heap.size, 0, none⟩ = some (.int .i64 x0) ∧ X.cell? ⟨w.heap.size, 1, none⟩ = some (.int .i64 x1)) ∧ (X.cell? ⟨g, o + i * 2, none⟩ = some (.int .i64 n0) ∧ X.cell? ⟨g, o + i * 2 + 1, none⟩ = some (.int .i64 n1)) ∧ AP w B n F (some ⟨g, o, none⟩) cp x0 x1 X) (by kernel_rfl) ⟨HS.out.1, ⟨y0, y1⟩, HS.out.drew⟩ (fun hS => ?_)
        refine tkH 0 ?_ hS (fun wx hx => ?_) ?_; rotate_left
        · obtain ⟨⟨hx0, hx1⟩, ⟨hx4, hx5⟩, _⟩ := hx; go_simp; try with_reducible rfl
        refine tkH 1 ?_ hS (fun wx hx => ?_) ?_; rotate_left
        · obtain ⟨⟨hx0, hx1⟩, ⟨hx4, hx5⟩, _⟩ := hx; go_simp; try with_reducible rfl
        refine tkH 2 ?_ hS (fun wx hx => ?_) ?_; rotate_left
        · obtain ⟨⟨hx0, hx1⟩, ⟨hx4, hx5⟩, _⟩ := hx; go_simp; try with_reducible rfl
        refine tkH 3 ?_ hS (fun wx hx => ?_) ?_; rotate_left
        · obtain ⟨⟨hx0, hx1⟩, ⟨hx4, hx5⟩, _⟩ := hx; go_simp; try with_reducible rfl
        refine tkH 4 ?_ hS (fun wx hx => ?_) ?_; rotate_left
        · obtain ⟨⟨hx0, hx1⟩, ⟨hx4, hx5⟩, _⟩ := hx; go_simp; try with_reducible rfl
        refine tkH 5 ?_ hS (fun wx hx => ?_) ?_; rotate_left
        · obtain ⟨⟨hx0, hx1⟩, ⟨hx4, hx5⟩, _⟩ := hx; go_simp; try with_reducible rfl
        refine tkH 6 ?_ hS (fun wx hx => ?_) ?_; rotate_left
        · obtain ⟨⟨hx0, hx1⟩, ⟨hx4, hx5⟩, _⟩ := hx; go_simp; try with_reducible rfl
        refine tkH 7 ?_ hS (fun wx hx => ?_) ?_; rotate_left
        · obtain ⟨⟨hx0, hx1⟩, ⟨hx4, hx5⟩, _⟩ := hx; go_simp; try with_reducible rfl
        refine tkH 8 ?_ hS (fun wx hx => ?_) ?_; rotate_left
        · obtain ⟨⟨hx0, hx1⟩, ⟨hx4, hx5⟩, _⟩ := hx; go_simp; try with_reducible rfl
        refine tkH 9 ?_ hS (fun wx hx => ?_) ?_; rotate_left
        · obtain ⟨⟨hx0, hx1⟩, ⟨hx4, hx5⟩, _⟩ := hx; go_simp; try with_reducible rfl
        refine tkH 10 ?_ hS (fun wx hx => ?_) ?_; rotate_left
        · obtain ⟨⟨hx0, hx1⟩, ⟨hx4, hx5⟩, _⟩ := hx; go_simp; try with_reducible rfl
        refine rdH 11 (fun K hK => ?_)
        go_simp
        go_wp2_with fail
        obtain ⟨r, hr⟩ : ∃ r, cmpOf n0 x0 = r := ⟨_, rfl⟩
        refine (comparePairs_is n0 n1 x0 x1 r hr _).mono ?_
        rintro e w1 ⟨rfl, q1⟩
        have S1 : AP w B n F (some ⟨g, o, none⟩) cp x0 x1 w1 := hS.2.2.later H.out q1
        obtain ⟨_, ⟨y0, y1⟩, _⟩ := hS
        have y0' := (q1.cell (p := ⟨g, o + i * 2, none⟩) (lt_cellP y0)).trans y0
        have y1' := (q1.cell (p := ⟨g, o + i * 2 + 1, none⟩) (lt_cellP y1)).trans y1
        go_wp2_with fail
        refine hK.out _ _ ⟨S1.1, ⟨y0', y1'⟩, S1⟩ (fun hS => ?_)
        clear hK K y0 y1 y0' y1' q1 S1 HS
        by_cases ha : n0 = x0
        · obtain rfl : r = 0 := by rw [← hr]; exact (cmp_zeroP n0 x0).2 ha
          have HR : Hid (F (i * 2) = x0) := HN.out.trans ha
          clear ha hr HN
          refine tkH 12 ?_ hS (fun wx hx => ?_) ?_; rotate_left
          · obtain ⟨⟨hx0, hx1⟩, ⟨hx4, hx5⟩, _⟩ := hx; go_simp; try with_reducible rfl
          refine tkH 13 ?_ hS (fun wx hx => ?_) ?_; rotate_left
          · obtain ⟨⟨hx0, hx1⟩, ⟨hx4, hx5⟩, _⟩ := hx; go_simp; try with_reducible rfl
          refine tkH 14 ?_ hS (fun wx hx => ?_) ?_; rotate_left
          · obtain ⟨⟨hx0, hx1⟩, ⟨hx4, hx5⟩, _⟩ := hx; go_simp; try with_reducible rfl
          refine tkH 15 ?_ hS (fun wx hx => ?_) ?_; rotate_left
          · obtain ⟨⟨hx0, hx1⟩, ⟨hx4, hx5⟩, _⟩ := hx; go_simp; try with_reducible rfl
          refine wpAnyH_done (by kernel_rfl) ?_ _
          go_simp
          go_wp2
          go_ret2
          exact ⟨i, true, rfl, HP.out, ⟨fun _ => ⟨hin, HR.out⟩, fun _ => rfl⟩, hS.2.2.2.2⟩
        · have dr : (r == 0) = false := beq_eq_false_iff_ne.2 (by rw [← hr]; exact fun q => ha ((cmp_zeroP n0 x0).1 q))
          have HR : Hid (¬ F (i * 2) = x0) := fun q => ha (HN.out.symm.trans q)
          clear ha hr HN
          refine tkH 12 ?_ hS (fun wx hx => ?_) ?_; rotate_left
          · obtain ⟨⟨hx0, hx1⟩, ⟨hx4, hx5⟩, _⟩ := hx; go_simp; try with_reducible rfl
          refine tkH 13 ?_ hS (fun wx hx => ?_) ?_; rotate_left
          · obtain ⟨⟨hx0, hx1⟩, ⟨hx4, hx5⟩, _⟩ := hx; go_simp; try with_reducible rfl
          refine tkH 14 ?_ hS (fun wx hx => ?_) ?_; rotate_left
          · obtain ⟨⟨hx0, hx1⟩, ⟨hx4, hx5⟩, _⟩ := hx; go_simp; try with_reducible rfl
          refine tkH 15 ?_ hS (fun wx hx => ?_) ?_; rotate_left
          · obtain ⟨⟨hx0, hx1⟩, ⟨hx4, hx5⟩, _⟩ := hx; go_simp; try with_reducible rfl
          refine wpAnyH_done (by kernel_rfl) ?_ _
          go_simp
          go_wp2
          go_ret2
          exact ⟨i, false, rfl, HP.out, ⟨fun q => (Bool.false_ne_true q).elim, fun q => (HR.out q.2).elim⟩, hS.2.2.2.2⟩
      · have dn : decide (i < n) = false := decide_eq_false hin
        refine wp_region_held_drew (S := AP w B n F ao cp x0 x1) (by kernel_rfl) HS.out.drew (fun hS => ?_)
        refine tkH 0 ?_ hS (fun wx hx => ?_) ?_; rotate_left
        · go_simp; try with_reducible rfl
        refine tkH 1 ?_ hS (fun wx hx => ?_) ?_; rotate_left
        · go_simp; try with_reducible rfl
        refine tkH 2 ?_ hS (fun wx hx => ?_) ?_; rotate_left
        · go_simp; try with_reducible rfl
        refine tkH 3 ?_ hS (fun wx hx => ?_) ?_; rotate_left
        · go_simp; try with_reducible rfl
        refine tkH 4 ?_ hS (fun wx hx => ?_) ?_; rotate_left
        · go_simp; try with_reducible rfl
        refine noH 5 hS ?_
        refine noH 6 hS ?_
        refine noH 7 hS ?_
        refine noH 8 hS ?_
        refine noH 9 hS ?_
        refine noH 10 hS ?_
        refine noH 11 hS ?_
        refine noH 12 hS ?_
        refine tkH 13 ?_ hS (fun wx hx => ?_) ?_; rotate_left
        · go_simp; try with_reducible rfl
        refine tkH 14 ?_ hS (fun wx hx => ?_) ?_; rotate_left
        · go_simp; try with_reducible rfl
        refine tkH 15 ?_ hS (fun wx hx => ?_) ?_; rotate_left
        · go_simp; try with_reducible rfl
        refine wpAnyH_done (by kernel_rfl) ?_ _
        go_simp
        go_wp2
        go_ret2
        exact ⟨i, false, rfl, HP.out, ⟨fun q => (Bool.false_ne_true q).elim, fun q => (hin q.1).elim⟩, hS.2.2⟩
    go_upto_region 5 with fail
    obtain ⟨m, hm⟩ : ∃ m : Nat, ((i : Int) + j) / 2 = m := ⟨(i + j) / 2, by omega⟩
    have hm1 : i ≤ m ∧ m < j := by omega
    rw [hm]
    clear hm
    obtain ⟨hm1, hm2⟩ := hm1
    have hmn : m < n := by omega
    obtain ⟨g, o, hao, _, hg, y0, y1⟩ := HS.out.2.1.at2 hmn
    subst hao
    obtain ⟨n0, N0⟩ : ∃ x, F (m * 2) = x := ⟨_, rfl⟩
    rw [N0] at y0
    obtain ⟨n1, N1⟩ : ∃ x, F (m * 2 + 1) = x := ⟨_, rfl⟩
    rw [N1] at y1
    have HC : Hid (aheadP F x0 m ↔ n0 < x0) := by unfold aheadP; rw [N0]; exact Iff.rfl
    clear N0 N1
    refine wp_region_held_drew (S := fun X => (X.cell? ⟨w.heap.size, 0, none⟩ = some (.int .i64 x0) ∧ X.cell? ⟨w.heap.size, 1, none⟩ = some (.int .i64 x1)) ∧ (X.cell? ⟨g, o + m * 2, none⟩ = some (.int .i64 n0) ∧ X.cell? ⟨g, o + m * 2 + 1, none⟩ = some (.int .i64 n1)) ∧ AP w B n F (some ⟨g, o, none⟩) cp x0 x1 X) (by kernel_rfl) ⟨HS.out.1, ⟨y0, y1⟩, HS.out.drew⟩ (fun hS => ?_)
    refine tkH 0 ?_ hS (fun wx hx => ?_) ?_; rotate_left
    · obtain ⟨⟨hx0, hx1⟩, ⟨hx4, hx5⟩, _⟩ := hx; go_simp; try with_reducible rfl
    refine tkH 1 ?_ hS (fun wx hx => ?_) ?_; rotate_left
    · obtain ⟨⟨hx0, hx1⟩, ⟨hx4, hx5⟩, _⟩ := hx; go_simp; try with_reducible rfl
    refine tkH 2 ?_ hS (fun wx hx => ?_) ?_; rotate_left
    · obtain ⟨⟨hx0, hx1⟩, ⟨hx4, hx5⟩, _⟩ := hx; go_simp; try with_reducible rfl
    refine tkH 3 ?_ hS (fun wx hx => ?_) ?_; rotate_left
    · obtain ⟨⟨hx0, hx1⟩, ⟨hx4, hx5⟩, _⟩ := hx; go_simp; try with_reducible rfl
    refine tkH 4 ?_ hS (fun wx hx => ?_) ?_; rotate_left
    · obtain ⟨⟨hx0, hx1⟩, ⟨hx4, hx5⟩, _⟩ := hx; go_simp; try with_reducible rfl
    refine tkH 5 ?_ hS (fun wx hx => ?_) ?_; rotate_left
    · obtain ⟨⟨hx0, hx1⟩, ⟨hx4, hx5⟩, _⟩ := hx; go_simp; try with_reducible rfl
    refine rdH 6 (fun K hK => ?_)
    go_simp
    go_wp2_with fail
    obtain ⟨r, hr⟩ : ∃ r, cmpOf n0 x0 = r := ⟨_, rfl⟩
    refine (comparePairs_is n0 n1 x0 x1 r hr _).mono ?_
    rintro e w1 ⟨rfl, q1⟩
    have S1 : AP w B n F (some ⟨g, o, none⟩) cp x0 x1 w1 := hS.2.2.later H.out q1
    obtain ⟨_, ⟨y0, y1⟩, _⟩ := hS
    have y0' := (q1.cell (p := ⟨g, o + m * 2, none⟩) (lt_cellP y0)).trans y0
    have y1' := (q1.cell (p := ⟨g, o + m * 2 + 1, none⟩) (lt_cellP y1)).trans y1
    go_wp2_with fail
    refine hK.out _ _ ⟨S1.1, ⟨y0', y1'⟩, S1⟩ (fun hS => ?_)
    clear hK K y0 y1 y0' y1' q1 S1 HS
    by_cases ha : n0 < x0
    · have dr : decide (r < 0) = true := decide_eq_true (by rw [← hr]; exact (cmp_negP n0 x0).2 ha)
      have HA1 : Hid (∀ q, q < m + 1 → aheadP F x0 q) := fun q hq => HM.out q m (by omega) hmn (HC.out.2 ha)
      clear ha hr HC HA
      refine tkH 7 ?_ hS (fun wx hx => ?_) ?_; rotate_left
      · obtain ⟨⟨hx0, hx1⟩, ⟨hx4, hx5⟩, _⟩ := hx; go_simp; try with_reducible rfl
      refine wpAnyH_done (by kernel_rfl) ?_ _
      go_simp
      go_wp2
      go_roundw
      case rel => exact ⟨m + 1, j, by omega, hj, by go_num, rfl, HA1, HB, hS.2.2⟩
      case measure => simp [intOf]; omega
    · have dr : decide (r < 0) = false := decide_eq_false (by rw [← hr]; exact fun q => ha ((cmp_negP n0 x0).1 q))
      have HB1 : Hid (∀ q, m ≤ q → q < n → ¬ aheadP F x0 q) := fun q h1 h2 h3 => ha (HC.out.1 (HM.out m q h1 h2 h3))
      clear ha hr HC HB
      refine tkH 7 ?_ hS (fun wx hx => ?_) ?_; rotate_left
      · obtain ⟨⟨hx0, hx1⟩, ⟨hx4, hx5⟩, _⟩ := hx; go_simp; try with_reducible rfl
      refine wpAnyH_done (by kernel_rfl) ?_ _
      go_simp
      go_wp2
      go_roundw
      case rel => exact ⟨i, m, hm1, by omega, rfl, rfl, HA, HB1, hS.2.2⟩
      case measure => simp [intOf]; omega
end Go.Proofs.YtnchaccgenfhoaaGreat

namespace Go.Proofs.YtnchaccgenfhoaaGreat
open Go.RowKit

abbrev Prs := List (Int × Int)
/-- The numbers of a list of pairs, one behind the other. -/
def rowL (L : Prs) (p : Nat) : Int := if p % 2 = 0 then (L.getD (p / 2) (0, 0)).1 else (L.getD (p / 2) (0, 0)).2
theorem rowL_key (L : Prs) (k : Nat) : rowL L (k * 2) = (L.getD k (0, 0)).1 := by
  unfold rowL
  rw [if_pos (by omega), show k * 2 / 2 = k by omega]
theorem rowL_val (L : Prs) (k : Nat) : rowL L (k * 2 + 1) = (L.getD k (0, 0)).2 := by
  unfold rowL
  rw [if_neg (by omega), show (k * 2 + 1) / 2 = k by omega]
/-- The pairs of a row. -/
def listOf (F : Nat → Int) (n : Nat) : Prs := (List.range n).map fun k => (F (k * 2), F (k * 2 + 1))
theorem listOf_length (F : Nat → Int) (n : Nat) : (listOf F n).length = n := by simp [listOf]
theorem listOf_get {F : Nat → Int} {n k : Nat} (h : k < n) : (listOf F n).getD k (0, 0) = (F (k * 2), F (k * 2 + 1)) := by simp [listOf, h, List.getD]
theorem rowL_listOf {F : Nat → Int} {n p : Nat} (h : p < n * 2) : rowL (listOf F n) p = F p := by
  unfold rowL
  rw [listOf_get (by omega)]
  split
  · show F (p / 2 * 2) = F p
    congr 1; omega
  · show F (p / 2 * 2 + 1) = F p
    congr 1; omega
theorem row_eqP {w : World} {B n : Nat} {F G : Nat → Int} {v : Value} (h : Row w B 2 n F v) (e : ∀ p, p < n * 2 → F p = G p) : Row w B 2 n G v := by
  obtain ⟨a, c, hv, hr⟩ := h
  refine ⟨a, c, hv, fun hn => ?_⟩
  obtain ⟨g, o, h1, h2, h3, h4⟩ := hr hn
  exact ⟨g, o, h1, h2, h3, fun p hp => by rw [← e p hp]; exact h4 p hp⟩
theorem vals_eqP {N : Nat} {F G : Nat → Int} (e : ∀ p, p < N → F p = G p) : vals F N = vals G N := by
  unfold vals
  exact List.map_congr_left fun p hp => by rw [e p (List.mem_range.1 hp)]
theorem own_eqP {w : World} {B m n : Nat} {ty : TypeId} {F G : Nat → Int} {v : Value} (h : Own w B ty m n F v) (e : ∀ p, p < n * m → F p = G p) : Own w B ty m n G v := by
  unfold Own at h ⊢
  rwa [← vals_eqP e]

/-- The pairs of other keys. -/
def gonePr (L : Prs) (k : Int) : Prs := L.filter fun e => e.1 ≠ k
/-- A pair put at its place, the pair of its key gone. -/
def putPr : Prs → Int → Int → Prs
  | [], k, v => [(k, v)]
  | e :: t, k, v => if k ≤ e.1 then (k, v) :: gonePr (e :: t) k else e :: putPr t k v
/-- Keys rise. -/
def Rises (L : Prs) : Prop := L.Pairwise fun a b => a.1 < b.1
/-- How many stand ahead of a key. -/
def aheadN (L : Prs) (k : Int) : Nat := (L.takeWhile fun e => decide (e.1 < k)).length
theorem aheadN_le (L : Prs) (k : Int) : aheadN L k ≤ L.length := (List.takeWhile_sublist _).length_le
theorem aheadN_lt {L : Prs} {k : Int} {j : Nat} (h : j < aheadN L k) : (L.getD j (0, 0)).1 < k := by
  induction L generalizing j with
  | nil => simp [aheadN] at h
  | cons e t ih =>
    unfold aheadN at h ih
    rw [List.takeWhile_cons] at h
    split at h
    · rename_i he
      cases j with
      | zero => simpa using he
      | succ j => simpa using ih (by simpa using h)
    · simp at h
theorem aheadN_not {L : Prs} {k : Int} (h : aheadN L k < L.length) : ¬ (L.getD (aheadN L k) (0, 0)).1 < k := by
  induction L with
  | nil => simp at h
  | cons e t ih =>
    unfold aheadN at h ih ⊢
    rw [List.takeWhile_cons] at h ⊢
    split
    · rename_i he
      rw [if_pos he] at h
      simpa using ih (by simpa using h)
    · rename_i he
      simpa using he
/-- The place that the search tells is how many stand ahead. -/
theorem place_is {L : Prs} {k : Int} {i : Nat} (h : placeAtP (aheadP (rowL L) k) L.length i) : i = aheadN L k := by
  obtain ⟨h1, h2, h3⟩ := h
  unfold aheadP at h2 h3
  simp only [rowL_key] at h2 h3
  rcases Nat.lt_trichotomy i (aheadN L k) with q | q | q
  · exact absurd (aheadN_lt q) (h3 (Nat.lt_of_lt_of_le q (aheadN_le L k)))
  · exact q
  · exact absurd (h2 _ q) (aheadN_not (by omega))
theorem rises_mono {L : Prs} (h : Rises L) {k : Int} (i j : Nat) (hij : i ≤ j) (hj : j < L.length) (ha : aheadP (rowL L) k j) : aheadP (rowL L) k i := by
  unfold aheadP at *
  rw [rowL_key] at *
  rcases Nat.eq_or_lt_of_le hij with rfl | q
  · exact ha
  · have := List.pairwise_iff_getElem.1 h i j (by omega) hj q
    simp only [List.getD_eq_getElem?_getD, List.getElem?_eq_getElem hj, List.getElem?_eq_getElem (show i < L.length by omega), Option.getD_some] at ha ⊢
    omega
/-- Of a list that rises the one that stands at the place of a key is dropped, if it has that key. -/
theorem gone_is {L : Prs} (h : Rises L) (k : Int) : gonePr L k = if aheadN L k < L.length ∧ (L.getD (aheadN L k) (0, 0)).1 = k then L.eraseIdx (aheadN L k) else L := by
  induction L with
  | nil => simp [gonePr]
  | cons e t ih =>
    have ht := List.pairwise_cons.1 h
    by_cases he : e.1 < k
    · have hA : aheadN (e :: t) k = aheadN t k + 1 := by simp [aheadN, he]
      have hg : gonePr (e :: t) k = e :: gonePr t k := by
        unfold gonePr; rw [List.filter_cons_of_pos (by simp; omega)]
      rw [hg, ih ht.2, hA]
      simp only [List.length_cons, List.getD_cons_succ, Nat.add_lt_add_iff_right, List.eraseIdx_cons_succ]
      split <;> rfl
    · have hA : aheadN (e :: t) k = 0 := by simp [aheadN, he]
      have hr : gonePr t k = t := by
        unfold gonePr
        exact List.filter_eq_self.2 fun a ha => by have := ht.1 a ha; simp; omega
      rw [hA]
      by_cases hk : e.1 = k
      · rw [if_pos ⟨by simp, by simpa using hk⟩]
        unfold gonePr
        rw [List.filter_cons_of_neg (by simp [hk])]
        exact hr
      · rw [if_neg (fun q => hk (by simpa using q.2))]
        unfold gonePr
        rw [List.filter_cons_of_pos (by simp [hk])]
        rw [show List.filter (fun e => decide (e.1 ≠ k)) t = t from hr]
theorem gonePr_rises {L : Prs} (h : Rises L) (k : Int) : Rises (gonePr L k) := h.filter _
theorem put_is {L : Prs} (h : Rises L) (k v : Int) : putPr L k v = (gonePr L k).insertIdx (aheadN (gonePr L k) k) (k, v) := by
  induction L with
  | nil => rfl
  | cons e t ih =>
    have ht := List.pairwise_cons.1 h
    by_cases he : k ≤ e.1
    · have hA : aheadN (gonePr (e :: t) k) k = 0 := by
        have hall : ∀ a ∈ gonePr (e :: t) k, ¬ a.1 < k := fun a ha => by
          have ha' := (List.mem_filter.1 ha).1
          rcases List.mem_cons.1 ha' with rfl | q
          · omega
          · have := ht.1 a q; omega
        unfold aheadN
        cases hg : gonePr (e :: t) k with
        | nil => rfl
        | cons a b =>
          rw [hg] at hall
          have := hall a (by simp)
          simp [this]
      rw [putPr, if_pos he, hA]
      rfl
    · have hg : gonePr (e :: t) k = e :: gonePr t k := by
        unfold gonePr; rw [List.filter_cons_of_pos (by simp; omega)]
      have hA : aheadN (e :: gonePr t k) k = aheadN (gonePr t k) k + 1 := by simp [aheadN, show e.1 < k by omega]
      rw [putPr, if_neg he, hg, hA, ih ht.2]
      rfl
theorem putPr_mem {L : Prs} {k v : Int} {a : Int × Int} (h : a ∈ putPr L k v) : a = (k, v) ∨ a ∈ L := by
  induction L with
  | nil => simpa [putPr] using h
  | cons e t ih =>
    rw [putPr] at h
    split at h
    · rcases List.mem_cons.1 h with q | q
      · exact Or.inl q
      · exact Or.inr (List.mem_filter.1 q).1
    · rcases List.mem_cons.1 h with q | q
      · exact Or.inr (by rw [q]; simp)
      · rcases ih q with r | r
        · exact Or.inl r
        · exact Or.inr (List.mem_cons_of_mem _ r)
theorem putPr_rises {L : Prs} (h : Rises L) (k v : Int) : Rises (putPr L k v) := by
  induction L with
  | nil => simp [putPr, Rises]
  | cons e t ih =>
    have ht := List.pairwise_cons.1 h
    rw [putPr]
    split
    · rename_i he
      refine List.pairwise_cons.2 ⟨fun a ha => ?_, gonePr_rises h k⟩
      obtain ⟨h1, h2⟩ := List.mem_filter.1 ha
      have h2' : a.1 ≠ k := by simpa using h2
      show k < a.1
      rcases List.mem_cons.1 h1 with rfl | q
      · omega
      · have := ht.1 a q; omega
    · rename_i he
      refine List.pairwise_cons.2 ⟨fun a ha => ?_, ih ht.2⟩
      rcases putPr_mem ha with rfl | q
      · show e.1 < k; omega
      · exact ht.1 a q
/-- A pair above all is put at the end. -/
theorem putPr_end {L : Prs} {k v : Int} (h : ∀ a ∈ L, a.1 < k) : putPr L k v = L ++ [(k, v)] := by
  induction L with
  | nil => rfl
  | cons e t ih =>
    have := h e (by simp)
    rw [putPr, if_neg (by omega), ih fun a ha => h a (List.mem_cons_of_mem _ ha)]
    rfl
theorem rowL_erase {L : Prs} {i p : Nat} : dropF (rowL L) 2 i p = rowL (L.eraseIdx i) p := by
  unfold dropF rowL
  simp only [List.getD_eq_getElem?_getD, List.getElem?_eraseIdx]
  by_cases h : p < i * 2
  · rw [if_pos h, if_pos (show p / 2 < i by omega)]
  · rw [if_neg h, if_neg (show ¬ p / 2 < i by omega), show (p + 2) % 2 = p % 2 by omega, show (p + 2) / 2 = p / 2 + 1 by omega]
theorem rowL_is (L : Prs) (p : Nat) : rowL L p = if p % 2 = 0 then (L[p / 2]?.getD (0, 0)).1 else (L[p / 2]?.getD (0, 0)).2 := by
  unfold rowL
  rw [List.getD_eq_getElem?_getD]
theorem rowL_insert {L : Prs} {i p : Nat} {k v : Int} (hi : i ≤ L.length) (hp : p < (L.length + 1) * 2) : insF (rowL L) 2 L.length i [k, v] p = rowL (L.insertIdx i (k, v)) p := by
  rw [rowL_is (L.insertIdx i (k, v)), List.getElem?_insertIdx]
  rcases Nat.lt_or_ge p (i * 2) with h | h
  · rw [insF_lt h, if_pos (show p / 2 < i by omega), rowL_is]
  · rcases Nat.lt_or_ge p ((i + 1) * 2) with h2 | h2
    · have := insF_at (F := rowL L) (m := 2) (n := L.length) (i := i) (p := p - i * 2) (xs := [k, v]) rfl (by omega)
      rw [show i * 2 + (p - i * 2) = p by omega] at this
      rw [this, if_neg (show ¬ p / 2 < i by omega), if_pos (show p / 2 = i by omega), if_pos (show p / 2 ≤ L.length by omega)]
      rcases Nat.mod_two_eq_zero_or_one p with q | q
      · rw [if_pos q, show p - i * 2 = 0 by omega]; rfl
      · rw [if_neg (by omega), show p - i * 2 = 1 by omega]; rfl
    · have := insF_gt (F := rowL L) (m := 2) (n := L.length) (i := i) (p := p - (i + 1) * 2) (xs := [k, v]) rfl (by omega)
      rw [show (i + 1) * 2 + (p - (i + 1) * 2) = p by omega] at this
      rw [this, if_neg (show ¬ p / 2 < i by omega), if_neg (show ¬ p / 2 = i by omega), rowL_is,
        show (i * 2 + (p - (i + 1) * 2)) % 2 = p % 2 by omega, show (i * 2 + (p - (i + 1) * 2)) / 2 = p / 2 - 1 by omega]
end Go.Proofs.YtnchaccgenfhoaaGreat

namespace Go.Proofs.YtnchaccgenfhoaaGreat
open Go.RowKit

/-- The list's box, the box of a pair, and that nothing old has turned. -/
def RisE (w : World) (b c : Nat) (v : Value) (k x : Int) (X : World) : Prop := Blk2 X b v (.func (.func 63) #[] #[]) ∧ Blk2 X c (.int .i64 k) (.int .i64 x) ∧ Below w.heap.size w X
theorem RisE.later {w X X' : World} {b c : Nat} {v : Value} {k x : Int} (h : RisE w b c v k x X) (hb : Below X.heap.size X X') : RisE w b c v k x X' := ⟨h.1.later hb, h.2.1.later hb, h.2.2.trans (hb.mono h.2.2.size)⟩
theorem RisE.drew {w X : World} {b c : Nat} {v : Value} {k x : Int} (h : RisE w b c v k x X) : RisE w b c v k x X.drew := ⟨h.1, h.2.1, h.2.2.drew⟩
/-- Where a pair of that key stands. -/
def atKey (L : Prs) (k : Int) : Prop := aheadN L k < L.length ∧ (L.getD (aheadN L k) (0, 0)).1 = k
def PlaceIs (w : World) (L : Prs) (k : Int) (e : Ending) (w' : World) : Prop := ∃ r : Bool, e = .returned (.tuple #[.int .i64 (aheadN L k), .bool r]) ∧ (r = true ↔ atKey L k) ∧ Below w.heap.size w w'
set_option maxRecDepth 100000 in
set_option maxHeartbeats 2000000 in
theorem place_any (L : Prs) (b B : Nat) (v : Value) (k x : Int) (w : World) (hb : Blk2 w b v (.func (.func 63) #[] #[])) (ho : Own w B 61 2 L.length (rowL L) v) (hr : Rises L) (hn : L.length ≤ 1000) :
    Calls Tryz.prog 95 #[.pointer (some ⟨b, 0, none⟩), .agg #[.int .i64 k, .int .i64 x]] w (PlaceIs w L k) := by
  obtain ⟨ao, cp, rfl⟩ := ho.form
  have HO : Hid (Own w B 61 2 L.length (rowL L) (.slice ao L.length cp) ∧ Rises L) := ⟨ho, hr⟩
  have HE : RisE w b w.heap.size (.slice ao L.length cp) k x ((w.alloc (.cells #[.int .i64 k, .int .i64 x] 61)).drew) := RisE.drew ⟨hb.alloc _, Blk2.new w _ _ _, below_alloc _ _⟩
  clear ho hr hb
  go_enter Tryz.func95, Tryz.ntmps95
  go_upto_region 1 with fail
  refine wp_region_held_drew (S := RisE w b w.heap.size (.slice ao L.length cp) k x) (by kernel_rfl) HE (fun hS => ?_)
  clear HE
  refine tkH 0 ?_ hS (fun wx hx => ?_) ?_; rotate_left
  · obtain ⟨⟨⟨hx0, hx1⟩, hx4, hx5⟩, ⟨⟨hx2, hx3⟩, hx6, hx7⟩, _⟩ := hx; go_simp; try with_reducible rfl
  refine tkH 1 ?_ hS (fun wx hx => ?_) ?_; rotate_left
  · obtain ⟨⟨⟨hx0, hx1⟩, hx4, hx5⟩, ⟨⟨hx2, hx3⟩, hx6, hx7⟩, _⟩ := hx; go_simp; try with_reducible rfl
  refine tkH 2 ?_ hS (fun wx hx => ?_) ?_; rotate_left
  · obtain ⟨⟨⟨hx0, hx1⟩, hx4, hx5⟩, ⟨⟨hx2, hx3⟩, hx6, hx7⟩, _⟩ := hx; go_simp; try with_reducible rfl
  refine tkH 3 ?_ hS (fun wx hx => ?_) ?_; rotate_left
  · obtain ⟨⟨⟨hx0, hx1⟩, hx4, hx5⟩, ⟨⟨hx2, hx3⟩, hx6, hx7⟩, _⟩ := hx; go_simp; try with_reducible rfl
  refine tkH 4 ?_ hS (fun wx hx => ?_) ?_; rotate_left
  · obtain ⟨⟨⟨hx0, hx1⟩, hx4, hx5⟩, ⟨⟨hx2, hx3⟩, hx6, hx7⟩, _⟩ := hx; go_simp; try with_reducible rfl
  refine tkH 5 ?_ hS (fun wx hx => ?_) ?_; rotate_left
  · obtain ⟨⟨⟨hx0, hx1⟩, hx4, hx5⟩, ⟨⟨hx2, hx3⟩, hx6, hx7⟩, _⟩ := hx; go_simp; try with_reducible rfl
  refine tkH 6 ?_ hS (fun wx hx => ?_) ?_; rotate_left
  · obtain ⟨⟨⟨hx0, hx1⟩, hx4, hx5⟩, ⟨⟨hx2, hx3⟩, hx6, hx7⟩, _⟩ := hx; go_simp; try with_reducible rfl
  refine tkH 7 ?_ hS (fun wx hx => ?_) ?_; rotate_left
  · obtain ⟨⟨⟨hx0, hx1⟩, hx4, hx5⟩, ⟨⟨hx2, hx3⟩, hx6, hx7⟩, _⟩ := hx; go_simp; try with_reducible rfl
  refine tkH 8 ?_ hS (fun wx hx => ?_) ?_; rotate_left
  · obtain ⟨⟨⟨hx0, hx1⟩, hx4, hx5⟩, ⟨⟨hx2, hx3⟩, hx6, hx7⟩, _⟩ := hx; go_simp; try with_reducible rfl
  refine rdH 9 (fun K hK => ?_)
  go_simp
  go_wp2_with fail
  refine (searchP_any _ _ _ _ B k x _ (HO.out.1.later hS.2.2).row.1 hn (fun i j h1 h2 h3 => rises_mono HO.out.2 i j h1 h2 h3)).mono ?_
  rintro e w1 ⟨i, r, rfl, hp, hr, q1⟩
  obtain rfl := place_is hp
  simp only [rowL_key] at hr
  have HR : Hid (r = true ↔ atKey L k) := hr
  have HB : Hid (Below w.heap.size w w1) := hS.2.2.trans (q1.mono hS.2.2.size)
  have hS1 := hS.later q1
  clear hp hr q1 hS HO
  go_wp2_with fail
  refine hK.out _ _ hS1 (fun hS => ?_)
  clear hK K hS1
  refine tkH 10 ?_ hS (fun wx hx => ?_) ?_; rotate_left
  · obtain ⟨⟨⟨hx0, hx1⟩, hx4, hx5⟩, ⟨⟨hx2, hx3⟩, hx6, hx7⟩, _⟩ := hx; go_simp; try with_reducible rfl
  refine tkH 11 ?_ hS (fun wx hx => ?_) ?_; rotate_left
  · obtain ⟨⟨⟨hx0, hx1⟩, hx4, hx5⟩, ⟨⟨hx2, hx3⟩, hx6, hx7⟩, _⟩ := hx; go_simp; try with_reducible rfl
  refine tkH 12 ?_ hS (fun wx hx => ?_) ?_; rotate_left
  · obtain ⟨⟨⟨hx0, hx1⟩, hx4, hx5⟩, ⟨⟨hx2, hx3⟩, hx6, hx7⟩, _⟩ := hx; go_simp; try with_reducible rfl
  refine tkH 13 ?_ hS (fun wx hx => ?_) ?_; rotate_left
  · obtain ⟨⟨⟨hx0, hx1⟩, hx4, hx5⟩, ⟨⟨hx2, hx3⟩, hx6, hx7⟩, _⟩ := hx; go_simp; try with_reducible rfl
  refine wpAnyH_done (by kernel_rfl) ?_ _
  go_simp
  go_wp2
  go_ret2
  exact ⟨r, rfl, HR.out, HB.out⟩
set_option maxRecDepth 100000 in
set_option maxHeartbeats 2000000 in
theorem find_any (L : Prs) (b B : Nat) (v : Value) (k x : Int) (w : World) (hb : Blk2 w b v (.func (.func 63) #[] #[])) (ho : Own w B 61 2 L.length (rowL L) v) (hr : Rises L) (hn : L.length ≤ 1000) :
    Calls Tryz.prog 71 #[.pointer (some ⟨b, 0, none⟩), .agg #[.int .i64 k, .int .i64 x]] w fun e w' => ∃ (r : Bool) (y z : Int), e = .returned (.tuple #[.agg #[.int .i64 y, .int .i64 z], .bool r]) ∧ (r = true ↔ atKey L k) ∧ (r = true → (y, z) = L.getD (aheadN L k) (0, 0)) ∧ (r = false → y = 0 ∧ z = 0) ∧ Below w.heap.size w w' := by
  obtain ⟨ao, cp, rfl⟩ := ho.form
  have HO : Hid (Own w B 61 2 L.length (rowL L) (.slice ao L.length cp) ∧ Rises L ∧ Blk2 w b (.slice ao L.length cp) (.func (.func 63) #[] #[])) := ⟨ho, hr, hb⟩
  clear ho hr hb
  go_enter Tryz.func71, Tryz.ntmps71
  go_wp2_with fail
  refine (place_any L b B _ k x _ ((HO.out.2.2.alloc _).alloc _) ((HO.out.1.alloc _).alloc _) HO.out.2.1 hn).mono ?_
  rintro e w1 ⟨r, rfl, hr, q1⟩
  have HR : Hid (r = true ↔ atKey L k) := hr
  have hz := Blk2.later (Blk2.new (w.alloc (.cells #[.int .i64 k, .int .i64 x] 61)) (.int .i64 0) (.int .i64 0) 61) q1
  rw [World.size_alloc] at hz
  have HZ : Hid (Blk2 w1 (w.heap.size + 1) (.int .i64 0) (.int .i64 0)) := hz
  have HB : Hid (Below w.heap.size w w1) := ((below_alloc w _).alloc (by simp) _).trans (q1.mono (by simp; omega))
  clear q1 hr hz
  cases r with
  | false =>
    obtain ⟨⟨z0, z1⟩, z2, z3⟩ := HZ.out
    go_wp2
    refine bodyPost_ret (v := .tuple #[.agg #[.int .i64 0, .int .i64 0], .bool false]) (by simp [results, Tryz.results71, go_sem, z0, z1]) rfl ⟨false, 0, 0, rfl, HR.out, fun q => (Bool.false_ne_true q).elim, fun _ => ⟨rfl, rfl⟩, ?_⟩
    exact ((HB.out.setCell (by simp) _).setCell (by simp) _)
  | true =>
    have hat := HR.out.1 rfl
    obtain ⟨g, o, hao, _, hg, y0, y1⟩ := (HO.out.1.later HB.out).row.1.at2 hat.1
    subst hao
    obtain ⟨hb0, hb1⟩ := (HO.out.2.2.later HB.out).1
    obtain ⟨y, Y⟩ : ∃ y, rowL L (aheadN L k * 2) = y := ⟨_, rfl⟩
    obtain ⟨z, Z⟩ : ∃ y, rowL L (aheadN L k * 2 + 1) = y := ⟨_, rfl⟩
    rw [Y] at y0
    rw [Z] at y1
    have HY : Hid ((y, z) = L.getD (aheadN L k) (0, 0)) := by
      unfold Hid
      rw [← Y, ← Z, rowL_key, rowL_val]
    have hlt := hat.1
    have ha : aheadN L k ≤ 1000 := Nat.le_trans (aheadN_le L k) hn
    obtain ⟨⟨z0, z1⟩, z2, z3⟩ := HZ.out
    have HT : Hid (atKey L k) := hat
    clear Y Z hat HR
    obtain ⟨A, hA⟩ : ∃ A, aheadN L k = A := ⟨_, rfl⟩
    rw [hA] at y0 y1 hlt ha
    rw [hA]
    have HAA : Hid (aheadN L k = A) := hA
    have HP := (Blk2.put HZ.out (.int .i64 y) (.int .i64 z)).1
    have q0 : (w1.setCell ⟨w.heap.size + 1, 0, none⟩ (.int .i64 y)).cell? ⟨w.heap.size + 1, 0, none⟩ = some (.int .i64 y) := World.cell?_setCell_same _ _ _ (u := .int .i64 0) z0
    have q1 := HP.2
    have HH : Hid (_ ∧ _) := ⟨q0, q1⟩
    clear hA q0 q1 HP
    go_wp2
    refine bodyPost_ret (v := .tuple #[.agg #[.int .i64 y, .int .i64 z], .bool true]) (by simp [results, Tryz.results71, go_sem, HH.out.1, HH.out.2]) rfl ⟨true, y, z, rfl, ⟨fun _ => HT.out, fun _ => rfl⟩, fun _ => HY.out, fun q => (Bool.false_ne_true q.symm).elim, ?_⟩
    exact ((HB.out.setCell (by simp) _).setCell (by simp) _)
theorem Blk2.set0P {x : World} {b : Nat} {a0 a1 : Value} (h : Blk2 x b a0 a1) (u : Value) : Blk2 (x.setCell ⟨b, 0, none⟩ u) b u a1 := by
  obtain ⟨⟨h0, h1⟩, f0, f1⟩ := h
  exact ⟨⟨World.cell?_setCell_same _ _ _ h0, (World.cell?_setCell_other _ _ _ _ (by simp)).trans h1⟩, by simpa using f0, by simpa using f1⟩
theorem own_grown {w w' : World} {b B : Nat} {v a0 a1 : Value} {n : Nat} {F : Nat → Int} (hb : Blk2 w b a0 a1) (ho : Own w B 61 2 n F v) (hB : b < B) (hg : w.grownBy w' v.ownBlock) : Blk2 w' b a0 a1 :=
  hb.kept (hg.block b hb.lt (fun e => by have := (own_in ho b e.symm).1; omega))
/-- What turned lies in the list's own blocks. -/
theorem grown_belowP {w w' : World} {B D : Nat} {v : Value} {n : Nat} {F : Nat → Int} (ho : Own w B 61 2 n F v) (hD : D ≤ B) (hDw : D ≤ w.heap.size) (hg : w.grownBy w' v.ownBlock) : Below D w w' :=
  ⟨hg.os, hg.tape, hg.output, hg.size, fun i hi => hg.block i (by omega) (fun e => by have := (own_in ho i e.symm).1; omega)⟩
/-- The list stands in its box: its own memory is behind the box. -/
def Ris (w : World) (b : Nat) (L : Prs) : Prop := ∃ v, Blk2 w b v (.func (.func 63) #[] #[]) ∧ Own w (b + 1) 61 2 L.length (rowL L) v
theorem Ris.later {w w' : World} {b : Nat} {L : Prs} (h : Ris w b L) (hb : Below w.heap.size w w') : Ris w' b L := by
  obtain ⟨v, h1, h2⟩ := h
  exact ⟨v, h1.later hb, h2.later hb⟩
theorem Ris.lt {w : World} {b : Nat} {L : Prs} (h : Ris w b L) : b < w.heap.size := by
  obtain ⟨v, h1, _⟩ := h
  exact h1.lt
theorem stored_is {w : World} {b : Nat} {v v' : Value} {L : Prs} (hb : Blk2 w b v (.func (.func 63) #[] #[])) (ho : Own w (b + 1) 61 2 L.length (rowL L) v') : Blk2 (w.setCell ⟨b, 0, none⟩ v') b v' (.func (.func 63) #[] #[]) ∧ Own (w.setCell ⟨b, 0, none⟩ v') (b + 1) 61 2 L.length (rowL L) v' :=
  ⟨Blk2.set0P hb _, own_kept ho (fun j hj => Below.heap_setCell w ⟨b, 0, none⟩ _ j (fun e => by have := (own_in ho j hj).1; simp at e; omega))⟩
/-- All blocks but two are as they were. -/
def KeptBut (b : Nat) (v : Value) (w w' : World) : Prop := w.heap.size ≤ w'.heap.size ∧ ∀ i, i < w.heap.size → i ≠ b → v.ownBlock ≠ some i → w'.heap[i]? = w.heap[i]?
theorem KeptBut.below {b : Nat} {v : Value} {w w' : World} (h : Below w.heap.size w w') : KeptBut b v w w' := ⟨h.size, fun i hi _ _ => h.block i hi⟩
theorem KeptBut.grown {b : Nat} {v : Value} {w w' : World} (h : w.grownBy w' v.ownBlock) : KeptBut b v w w' := ⟨h.size, fun i hi _ hv => h.block i hi (fun e => hv e.symm)⟩
theorem KeptBut.trans {b : Nat} {v : Value} {w w' w'' : World} (h : KeptBut b v w w') (_ : w.heap.size ≤ w'.heap.size) (h' : KeptBut b v w' w'') : KeptBut b v w w'' := ⟨Nat.le_trans h.1 h'.1, fun i hi h1 h2 => (h'.2 i (Nat.lt_of_lt_of_le hi h.1) h1 h2).trans (h.2 i hi h1 h2)⟩
theorem KeptBut.trans' {b : Nat} {v : Value} {w w' w'' : World} (h : KeptBut b v w w') (h' : KeptBut b v w' w'') : KeptBut b v w w'' := h.trans h.1 h'
theorem KeptBut.set {b k : Nat} {v u : Value} (w : World) : KeptBut b v w (w.setCell ⟨b, k, none⟩ u) := ⟨by simp, fun i _ h _ => Below.heap_setCell w ⟨b, k, none⟩ u i h⟩
set_option maxRecDepth 100000 in
set_option maxHeartbeats 2000000 in
theorem drop_any (L : Prs) (b : Nat) (v : Value) (k x : Int) (w : World) (hb : Blk2 w b v (.func (.func 63) #[] #[])) (ho : Own w (b + 1) 61 2 L.length (rowL L) v) (hr : Rises L) (hn : L.length ≤ 1000) :
    Calls Tryz.prog 103 #[.pointer (some ⟨b, 0, none⟩), .agg #[.int .i64 k, .int .i64 x]] w fun e w' => e = .returned (.tuple #[]) ∧ (∃ v', (Blk2 w' b v' (.func (.func 63) #[] #[]) ∧ Own w' (b + 1) 61 2 (gonePr L k).length (rowL (gonePr L k)) v') ∧ v'.ownBlock = v.ownBlock) ∧ Below b w w' ∧ KeptBut b v w w' := by
  obtain ⟨ao, cp, rfl⟩ := ho.form
  have HO : Hid (Own w (b + 1) 61 2 L.length (rowL L) (.slice ao L.length cp) ∧ Rises L ∧ Blk2 w b (.slice ao L.length cp) (.func (.func 63) #[] #[])) := ⟨ho, hr, hb⟩
  clear ho hr hb
  go_enter Tryz.func103, Tryz.ntmps103
  go_wp2_with fail
  refine (place_any L b (b + 1) _ k x _ (HO.out.2.2.alloc _) (HO.out.1.alloc _) HO.out.2.1 hn).mono ?_
  rintro e w1 ⟨r, rfl, hr, q1⟩
  have HR : Hid (r = true ↔ atKey L k) := hr
  have HB : Hid (Below w.heap.size w w1) := (below_alloc w _).trans (q1.mono (by simp))
  have hbw : Hid (b < w.heap.size) := HO.out.2.2.lt
  clear q1 hr
  by_cases hat : atKey L k
  · obtain rfl : r = true := HR.out.2 hat
    have HT : Hid (atKey L k) := hat
    have HE : Hid (gonePr L k = L.eraseIdx (aheadN L k)) := by
      unfold Hid
      rw [gone_is HO.out.2.1]; exact if_pos hat
    have O1 : Hid (Own w1 (b + 1) 61 2 L.length (rowL L) (.slice ao L.length cp) ∧ Blk2 w1 b (.slice ao L.length cp) (.func (.func 63) #[] #[])) := ⟨HO.out.1.later HB.out, HO.out.2.2.later HB.out⟩
    obtain ⟨⟨hb0, hb1⟩, _, _⟩ := O1.out.2
    have hlt := hat.1
    have ha : aheadN L k ≤ 1000 := Nat.le_trans (aheadN_le L k) hn
    obtain ⟨A, hA⟩ : ∃ A, aheadN L k = A := ⟨_, rfl⟩
    have HAA : Hid (aheadN L k = A) := hA
    rw [hA] at hlt ha
    rw [hA]
    clear hA HR hat
    go_wp2_with fail
    refine (delP_any _ (b + 1) L.length A (rowL L) _ O1.out.1 (by omega) hlt).mono ?_
    rintro e w2 ⟨v2, rfl, ho2, hg2, hob2⟩
    obtain ⟨e2, f2, rfl⟩ := ho2.form
    have HB2 : Hid (Blk2 w2 b (.slice ao L.length cp) (.func (.func 63) #[] #[])) := own_grown O1.out.2 O1.out.1 (by omega) hg2
    have HO2 : Hid (Own w2 (b + 1) 61 2 (gonePr L k).length (rowL (gonePr L k)) (.slice e2 (L.length - 1) f2)) := by
      unfold Hid
      rw [HE.out, HAA.out, List.length_eraseIdx_of_lt hlt]
      exact own_eqP ho2 (fun p _ => rowL_erase)
    have HD : Hid (Below b w w2) := (HB.out.mono (Nat.le_of_lt hbw.out)).trans (grown_belowP O1.out.1 (by omega) (by have := HB.out.size; have := hbw.out; omega) hg2)
    obtain ⟨⟨c0, c1⟩, c2, c3⟩ := HB2.out
    have HK : Hid (KeptBut b (.slice ao L.length cp) w w2) := (KeptBut.below HB.out).trans HB.out.size (KeptBut.grown hg2)
    have HOB : Hid ((Value.slice e2 (L.length - 1) f2).ownBlock = (Value.slice ao L.length cp).ownBlock) := hob2
    clear ho2 hg2 hob2
    go_wp2
    go_end0
    exact ⟨rfl, ⟨_, stored_is HB2.out HO2.out, HOB.out⟩, HD.out.setCell (Nat.le_refl _) _, HK.out.trans' (KeptBut.set _)⟩
  · obtain rfl : r = false := Bool.eq_false_iff.2 (fun q => hat (HR.out.1 q))
    have HE : Hid (gonePr L k = L) := by
      unfold Hid
      rw [gone_is HO.out.2.1]; exact if_neg hat
    clear hat HR
    go_wp2
    go_end0
    rw [HE.out]
    exact ⟨rfl, ⟨_, ⟨HO.out.2.2.later HB.out, HO.out.1.later HB.out⟩, rfl⟩, HB.out.mono (Nat.le_of_lt hbw.out), KeptBut.below HB.out⟩
end Go.Proofs.YtnchaccgenfhoaaGreat

namespace Go.Proofs.YtnchaccgenfhoaaGreat
open Go.RowKit

set_option maxRecDepth 100000 in
set_option maxHeartbeats 2000000 in
theorem put_any (L : Prs) (b : Nat) (k x : Int) (w : World) (h : Ris w b L) (hr : Rises L) (hn : L.length ≤ 900) :
    Calls Tryz.prog 94 #[.pointer (some ⟨b, 0, none⟩), .agg #[.int .i64 k, .int .i64 x]] w fun e w' => e = .returned (.tuple #[]) ∧ Ris w' b (putPr L k x) ∧ Below b w w' := by
  obtain ⟨v, hb, ho⟩ := h
  have HO : Hid (Blk2 w b v (.func (.func 63) #[] #[]) ∧ Own w (b + 1) 61 2 L.length (rowL L) v ∧ Rises L) := ⟨hb, ho, hr⟩
  have hbw : b < w.heap.size := hb.lt
  obtain ⟨G, hG⟩ : ∃ G, gonePr L k = G := ⟨_, rfl⟩
  have hGn : G.length ≤ 900 := by rw [← hG]; exact Nat.le_trans (List.length_filter_le _ _) hn
  have HGR : Hid (Rises G ∧ putPr L k x = G.insertIdx (aheadN G k) (k, x)) := by
    unfold Hid
    rw [← hG]
    exact ⟨gonePr_rises hr k, put_is hr k x⟩
  have HG : Hid (gonePr L k = G) := hG
  clear hb ho hr hG
  go_enter Tryz.func94, Tryz.ntmps94
  go_wp2_with fail
  refine (drop_any L b v k x _ (HO.out.1.alloc _) (HO.out.2.1.alloc _) HO.out.2.2 (by omega)).mono ?_
  rintro e w1 ⟨rfl, h1, q1, hk1⟩
  rw [HG.out] at h1
  obtain ⟨v1, ⟨hb1, ho1⟩, hv1⟩ := h1
  obtain ⟨ao, cp, rfl⟩ := ho1.form
  have HX1 : Blk2 w1 w.heap.size (.int .i64 k) (.int .i64 x) := (Blk2.new w _ _ 61).kept (hk1.2 _ (by simp) (by omega) (fun e => by have := (own_in HO.out.2.1 _ e).2; omega))
  have R1 : Hid (Blk2 w1 b (.slice ao G.length cp) (.func (.func 63) #[] #[]) ∧ Own w1 (b + 1) 61 2 G.length (rowL G) (.slice ao G.length cp) ∧ Blk2 w1 w.heap.size (.int .i64 k) (.int .i64 x) ∧ Below b w w1) := ⟨hb1, ho1, HX1, ((below_alloc w _).mono (Nat.le_of_lt hbw)).trans q1⟩
  obtain ⟨⟨c0, c1⟩, _, _⟩ := HX1
  have HVB : Hid (∀ q, (Value.slice ao G.length cp).ownBlock = some q → q < w.heap.size) := fun q hq => (own_in HO.out.2.1 q (hv1 ▸ hq)).2
  clear hv1 hb1 ho1 q1 hk1 HO
  go_wp2_with fail
  refine (place_any G b (b + 1) _ k x _ R1.out.1 R1.out.2.1 HGR.out.1 (by omega)).mono ?_
  rintro e w2 ⟨r, rfl, _, q2⟩
  have R2 : Hid (Blk2 w2 b (.slice ao G.length cp) (.func (.func 63) #[] #[]) ∧ Own w2 (b + 1) 61 2 G.length (rowL G) (.slice ao G.length cp) ∧ Blk2 w2 w.heap.size (.int .i64 k) (.int .i64 x) ∧ Below b w w2) := ⟨R1.out.1.later q2, R1.out.2.1.later q2, R1.out.2.2.1.later q2, R1.out.2.2.2.trans (q2.mono (by have := R1.out.2.2.2.size; omega))⟩
  have hle : aheadN G k ≤ G.length := aheadN_le G k
  obtain ⟨A, hA⟩ : ∃ A, aheadN G k = A := ⟨_, rfl⟩
  have HAA : Hid (putPr L k x = G.insertIdx A (k, x)) := by unfold Hid; rw [← hA]; exact HGR.out.2
  rw [hA] at hle
  rw [hA]
  clear hA q2 R1 c0 c1
  have hw2 : b < w2.heap.size := R2.out.1.lt
  have hc2 : w.heap.size < w2.heap.size := R2.out.2.2.1.lt
  have HI : Hid (Calls Tryz.prog 110 #[.slice ao G.length cp, .int .i64 A, .slice (some ⟨w2.heap.size, 0, none⟩) 1 1] (w2.drew.alloc (.cells #[.int .i64 k, .int .i64 x] 61)) (InsP (w2.drew.alloc (.cells #[.int .i64 k, .int .i64 x] 61)) (b + 1) G.length A (rowL G) [k, x] (.slice ao G.length cp))) :=
    insP_any _ (b + 1) G.length A w2.heap.size 1 (rowL G) [k, x] _ rfl (R2.out.2.1.later ((Below.drew (Below.refl _ _)).trans ((below_alloc _ _).mono (Nat.le_refl _)))) (by simp; omega) (by omega) hle (fun e => by have := (own_in R2.out.2.1 _ e).2; omega) (Blkk.made w2.drew _ _ _ rfl) (fun p hp => by
      rw [World.cell?_alloc_at (w := w2.drew) _ _ w2.heap.size p rfl]
      obtain rfl | rfl : p = 0 ∨ p = 1 := by omega
      all_goals rfl)
  have HYB : Hid (Below w2.heap.size w2 (w2.drew.alloc (.cells #[.int .i64 k, .int .i64 x] 61))) := (Below.drew (Below.refl _ _)).trans ((below_alloc _ _).mono (Nat.le_refl _))
  have SY : Hid (Blk2 (w2.drew.alloc (.cells #[.int .i64 k, .int .i64 x] 61)) b (.slice ao G.length cp) (.func (.func 63) #[] #[]) ∧ Blk2 (w2.drew.alloc (.cells #[.int .i64 k, .int .i64 x] 61)) w.heap.size (.int .i64 k) (.int .i64 x)) := ⟨R2.out.1.later HYB.out, R2.out.2.2.1.later HYB.out⟩
  have HOY : Hid (Own (w2.drew.alloc (.cells #[.int .i64 k, .int .i64 x] 61)) (b + 1) 61 2 G.length (rowL G) (.slice ao G.length cp) ∧ Below b w (w2.drew.alloc (.cells #[.int .i64 k, .int .i64 x] 61))) := ⟨R2.out.2.1.later HYB.out, R2.out.2.2.2.trans (HYB.out.mono (by omega))⟩
  obtain ⟨⟨p0, p1⟩, _, _⟩ := R2.out.1
  have hS0 : (fun X : World => Blk2 X w.heap.size (.int .i64 k) (.int .i64 x)) w2.drew := R2.out.2.2.1
  clear R2
  go_upto_region 3 with fail
  refine wp_region_held_drew (S := (fun X : World => Blk2 X w.heap.size (.int .i64 k) (.int .i64 x))) (by kernel_rfl) hS0 (fun hS => ?_)
  clear hS0
  refine tkH 0 ?_ hS (fun wx hx => ?_) ?_; rotate_left
  · obtain ⟨⟨hx2, hx3⟩, hx6, hx7⟩ := hx; go_simp; try with_reducible rfl
  refine tkH 1 ?_ hS (fun wx hx => ?_) ?_; rotate_left
  · obtain ⟨⟨hx2, hx3⟩, hx6, hx7⟩ := hx; go_simp; try with_reducible rfl
  refine tkH 2 ?_ hS (fun wx hx => ?_) ?_; rotate_left
  · obtain ⟨⟨hx2, hx3⟩, hx6, hx7⟩ := hx; go_simp; try with_reducible rfl
  refine tkH 3 ?_ hS (fun wx hx => ?_) ?_; rotate_left
  · obtain ⟨⟨hx2, hx3⟩, hx6, hx7⟩ := hx; go_simp; try with_reducible rfl
  refine tkH 5 ?_ hS (fun wx hx => ?_) ?_; rotate_left
  · obtain ⟨⟨hx2, hx3⟩, hx6, hx7⟩ := hx; go_simp; try with_reducible rfl
  refine tkH 6 ?_ hS (fun wx hx => ?_) ?_; rotate_left
  · obtain ⟨⟨hx2, hx3⟩, hx6, hx7⟩ := hx; go_simp; try with_reducible rfl
  refine wpAnyH_ready (rs := [4, 7]) (by kernel_rfl) (by simp) ?_
  refine AllReadyH.cons rfl (fun K hK => ?_) (AllReadyH.cons rfl (fun K hK => ?_) AllReadyH.nil)
  focus
    go_simp
    refine hK.out _ _ hS (fun hS => ?_)
    clear hK K p0 p1
    refine rdH 7 (fun K hK => ?_)
    go_simp
    refine hK.out _ _ SY.out.2 (fun hS => ?_)
    clear hK K
  rotate_left
  focus
    go_simp
    refine hK.out _ _ SY.out.2 (fun hS => ?_)
    clear hK K
    refine rdH 4 (fun K hK => ?_)
    go_simp
    refine hK.out _ _ hS (fun hS => ?_)
    clear hK K p0 p1
  rotate_left
  all_goals
    refine rdH 8 (fun K hK => ?_)
    go_simp
    go_wp2_with fail
    refine HI.out.mono ?_
    rintro e w3 ⟨a3, c3, rfl, ho3, hg3, _⟩
    have HB3 : Hid (Blk2 w3 b (.slice ao G.length cp) (.func (.func 63) #[] #[])) := own_grown SY.out.1 HOY.out.1 (by omega) hg3
    have hS3 : Blk2 w3 w.heap.size (.int .i64 k) (.int .i64 x) := SY.out.2.kept (hg3.block _ (by simp; omega) (fun e => by have := HVB.out _ e.symm; omega))
    have HO3 : Hid (Own w3 (b + 1) 61 2 (putPr L k x).length (rowL (putPr L k x)) (.slice a3 (G.length + 1) c3)) := by
      unfold Hid
      rw [HAA.out, List.length_insertIdx_of_le_length hle]
      exact own_eqP ho3 (fun p hp => rowL_insert hle hp)
    have HD3 : Hid (Below b w w3) := HOY.out.2.trans (grown_belowP HOY.out.1 (by omega) (by simp; omega) hg3)
    clear ho3 hg3
    go_wp2_with fail
    refine hK.out _ _ hS3 (fun hS => ?_)
    clear hK K hS3
    refine tkH 9 ?_ hS (fun wx hx => ?_) ?_; rotate_left
    · obtain ⟨⟨hx2, hx3⟩, hx6, hx7⟩ := hx; go_simp; try with_reducible rfl
    refine tkH 10 ?_ hS (fun wx hx => ?_) ?_; rotate_left
    · obtain ⟨⟨hx2, hx3⟩, hx6, hx7⟩ := hx; go_simp; try with_reducible rfl
    refine rdH 11 (fun K hK => ?_)
    obtain ⟨⟨x0, x1⟩, x2, x3⟩ := HB3.out
    go_simp
    refine hK.out _ _ (hS.kept (Below.heap_setCell _ ⟨b, 0, none⟩ _ _ (by simp; omega))) (fun hS => ?_)
    clear hK K x0 x1 x2 x3
    refine wpAnyH_done (by kernel_rfl) ?_ _
    go_simp
    go_end0
    exact ⟨rfl, ⟨_, stored_is HB3.out HO3.out⟩, HD3.out.setCell (Nat.le_refl _) _⟩
theorem take_put {L : Prs} (h : Rises L) {k : Nat} (hk : k < L.length) : putPr (L.take k) (L.getD k (0, 0)).1 (L.getD k (0, 0)).2 = L.take (k + 1) := by
  have hg : L.getD k (0, 0) = L[k] := by simp [List.getD, hk]
  rw [hg, putPr_end, List.take_succ_eq_append_getElem hk]
  intro a ha
  obtain ⟨i, hi, rfl⟩ := List.getElem_of_mem ha
  rw [List.getElem_take]
  have hi' : i < k := by
    rw [List.length_take] at hi; omega
  exact List.pairwise_iff_getElem.1 h i k (by omega) hk hi'
theorem rises_take {L : Prs} (h : Rises L) (k : Nat) : Rises (L.take k) := List.Pairwise.sublist (List.take_sublist k L) h
theorem Ris.new (w : World) : Ris (w.alloc (.cells #[.slice none 0 0, (.func (.func 63) #[] #[])] 126)) w.heap.size [] := ⟨_, Blk2.new w _ _ _, Own.nil _ _ _ _ _⟩
set_option maxRecDepth 100000 in
set_option maxHeartbeats 2000000 in
theorem filled_any (L : Prs) (v : Value) (B : Nat) (w : World) (h : Row w B 2 L.length (rowL L) v) (hr : Rises L) (hn : L.length ≤ 800) :
    Calls Tryz.prog 70 #[(.func (.func 63) #[] #[]), v] w fun e w' => ∃ b, e = .returned (.pointer (some ⟨b, 0, none⟩)) ∧ w.heap.size ≤ b ∧ Ris w' b L ∧ Below w.heap.size w w' := by
  obtain ⟨ao, cp, rfl⟩ := h.form
  have H : Hid (Row w B 2 L.length (rowL L) (.slice ao L.length cp) ∧ Rises L) := ⟨h, hr⟩
  clear h hr
  go_enter Tryz.func70, Tryz.ntmps70
  go_wp2
  go_loopw [13] (fun i wr => ∃ k : Nat, k ≤ L.length ∧ i = .int .i64 k ∧ Hid (Ris wr w.heap.size (L.take k) ∧ Below w.heap.size w wr)) (fun i _ => L.length - (intOf i).toNat)
  case atStart => exact ⟨0, Nat.zero_le _, rfl, Ris.new w, below_alloc _ _⟩
  case round =>
    obtain ⟨k, hk, rfl, HS⟩ := hrel
    by_cases hlt : k < L.length
    case neg =>
      obtain rfl : k = L.length := by omega
      have HE : Hid (Ris wr w.heap.size L ∧ Below w.heap.size w wr) := by
        have := HS.out
        rwa [List.take_length] at this
      clear HS
      go_wp2
      go_ret
      exact ⟨_, rfl, Nat.le_refl _, HE.out.1, HE.out.2⟩
    obtain ⟨g, o, hao, _, hg, y0, y1⟩ := (H.out.1.later HS.out.2).at2 hlt
    subst hao
    obtain ⟨n0, N0⟩ : ∃ x, rowL L (k * 2) = x := ⟨_, rfl⟩
    rw [N0] at y0
    obtain ⟨n1, N1⟩ : ∃ x, rowL L (k * 2 + 1) = x := ⟨_, rfl⟩
    rw [N1] at y1
    have HP : Hid (putPr (L.take k) n0 n1 = L.take (k + 1)) := by
      unfold Hid
      rw [← N0, ← N1, rowL_key, rowL_val]
      exact take_put H.out.2 hlt
    clear N0 N1
    have hz : Hid (w.heap.size < wr.heap.size) := HS.out.1.lt
    go_wp2_with fail
    refine (put_any (L.take k) w.heap.size n0 n1 _ (HS.out.1.later ?_) (rises_take H.out.2 k) (by rw [List.length_take]; omega)).mono ?_
    · exact below_alloc _ _
    rintro e w1 ⟨rfl, h1, q1⟩
    rw [HP.out] at h1
    have H1 : Hid (Ris w1 w.heap.size (L.take (k + 1)) ∧ Below w.heap.size w w1) := ⟨h1, HS.out.2.trans (((below_alloc wr _).mono (Nat.le_of_lt hz.out)).trans q1)⟩
    clear h1 q1 HS y0 y1
    go_wp2
    go_roundw
    case rel => exact ⟨k + 1, by omega, by go_num, H1⟩
    case measure => simp [intOf]; omega
/-- What an item makes of a list. -/
def stepA (L : Prs) (k kd v : Int) : Prs := if kd = 1 then putPr L k v else if kd = 2 then gonePr L k else L
/-- What the first m items make of it. -/
def applyN (L : Prs) (F : Nat → Int) : Nat → Prs
  | 0 => L
  | m + 1 => stepA (applyN L F m) (F (m * 3)) (F (m * 3 + 1)) (F (m * 3 + 2))
theorem putPr_len (L : Prs) (k v : Int) : (putPr L k v).length ≤ L.length + 1 := by
  induction L with
  | nil => simp [putPr]
  | cons e t ih =>
    rw [putPr]
    split
    · simp only [List.length_cons]
      have : (gonePr (e :: t) k).length ≤ (e :: t).length := List.length_filter_le _ _
      simp only [List.length_cons] at this
      omega
    · simp only [List.length_cons]; omega
theorem gonePr_len (L : Prs) (k : Int) : (gonePr L k).length ≤ L.length := List.length_filter_le _ _
theorem stepA_len (L : Prs) (k kd v : Int) : (stepA L k kd v).length ≤ L.length + 1 := by
  unfold stepA
  split
  · exact putPr_len L k v
  · split
    · exact Nat.le_trans (gonePr_len L k) (by omega)
    · omega
theorem stepA_rises {L : Prs} (h : Rises L) (k kd v : Int) : Rises (stepA L k kd v) := by
  unfold stepA
  split
  · exact putPr_rises h k v
  · split
    · exact gonePr_rises h k
    · exact h
theorem applyN_len (L : Prs) (F : Nat → Int) : ∀ m, (applyN L F m).length ≤ L.length + m
  | 0 => Nat.le_refl _
  | m + 1 => by
    have h1 := applyN_len L F m
    have h2 := stepA_len (applyN L F m) (F (m * 3)) (F (m * 3 + 1)) (F (m * 3 + 2))
    show (stepA _ _ _ _).length ≤ _
    omega
theorem applyN_rises {L : Prs} (h : Rises L) (F : Nat → Int) : ∀ m, Rises (applyN L F m)
  | 0 => h
  | m + 1 => stepA_rises (applyN_rises h F m) _ _ _
set_option maxRecDepth 100000 in
set_option maxHeartbeats 2000000 in
theorem applyTo_any (L : Prs) (F : Nat → Int) (n b : Nat) (y : Value) (B : Nat) (w0 w : World) (hi : Row w0 B 3 n F y) (h0 : Below w0.heap.size w0 w) (hb : w0.heap.size ≤ b) (h : Ris w b L) (hr : Rises L) (hL : L.length ≤ 800) (hn : n ≤ 12) :
    Calls Tryz.prog 81 #[.pointer (some ⟨b, 0, none⟩), y] w fun e w' => e = .returned (.tuple #[]) ∧ Ris w' b (applyN L F n) ∧ Below w0.heap.size w0 w' := by
  obtain ⟨ao, cp, rfl⟩ := hi.form
  have H : Hid (Row w0 B 3 n F (.slice ao n cp) ∧ Rises L) := ⟨hi, hr⟩
  have HB : Hid (Ris w b L ∧ Below w0.heap.size w0 w) := ⟨h, h0⟩
  clear hi hr h h0
  go_enter Tryz.func81, Tryz.ntmps81
  go_wp2
  go_loopw [8] (fun i wr => ∃ k : Nat, k ≤ n ∧ i = .int .i64 k ∧ Hid (Ris wr b (applyN L F k) ∧ Below w0.heap.size w0 wr)) (fun i _ => n - (intOf i).toNat)
  case atStart => exact ⟨0, Nat.zero_le _, rfl, HB.out⟩
  case round =>
    obtain ⟨k, hk, rfl, HS⟩ := hrel
    by_cases hlt : k < n
    case neg =>
      obtain rfl : k = n := by omega
      go_wp2
      go_end0
      exact ⟨rfl, HS.out.1, HS.out.2⟩
    obtain ⟨g, o, hao, _, hg, y0, y1, y2⟩ := (H.out.1.later HS.out.2).at3 hlt
    subst hao
    obtain ⟨n0, N0⟩ : ∃ x, F (k * 3) = x := ⟨_, rfl⟩
    rw [N0] at y0
    obtain ⟨n1, N1⟩ : ∃ x, F (k * 3 + 1) = x := ⟨_, rfl⟩
    rw [N1] at y1
    obtain ⟨n2, N2⟩ : ∃ x, F (k * 3 + 2) = x := ⟨_, rfl⟩
    rw [N2] at y2
    have HP : Hid (applyN L F (k + 1) = stepA (applyN L F k) n0 n1 n2) := by
      unfold Hid
      rw [← N0, ← N1, ← N2]
      rfl
    clear N0 N1 N2
    have hln : (applyN L F k).length ≤ 812 := Nat.le_trans (applyN_len L F k) (by omega)
    have HR : Hid (Rises (applyN L F k)) := applyN_rises H.out.2 F k
    have hz : Hid (b < wr.heap.size) := HS.out.1.lt
    by_cases k1 : n1 = 1
    · subst k1
      have HE : Hid (applyN L F (k + 1) = putPr (applyN L F k) n0 n2) := by unfold Hid; rw [HP.out, stepA, if_pos rfl]
      clear HP
      go_wp2_with fail
      refine (put_any (applyN L F k) b n0 n2 _ (HS.out.1.later ?_) HR.out (by omega)).mono ?_
      · exact below_alloc _ _
      rintro e w1 ⟨rfl, h1, q1⟩
      rw [← HE.out] at h1
      have H1 : Hid (Ris w1 b (applyN L F (k + 1)) ∧ Below w0.heap.size w0 w1) := ⟨h1, HS.out.2.trans (((below_alloc wr _).mono (by have := hz.out; omega)).trans (q1.mono hb))⟩
      clear h1 q1 HS y0 y1 y2
      go_wp2
      go_roundw
      case rel => exact ⟨k + 1, by omega, by go_num, H1⟩
      case measure => simp [intOf]; omega
    have d1 : (n1 == 1) = false := beq_eq_false_iff_ne.2 k1
    by_cases k2 : n1 = 2
    · have HE : Hid (applyN L F (k + 1) = gonePr (applyN L F k) n0) := by unfold Hid; rw [HP.out, stepA, if_neg k1, if_pos k2]
      subst k2
      clear HP k1 d1
      go_wp2_with fail
      obtain ⟨v, hb1, ho1⟩ := HS.out.1
      refine (drop_any (applyN L F k) b v n0 0 _ (hb1.alloc _) (ho1.alloc _) HR.out (by omega)).mono ?_
      rintro e w1 ⟨rfl, ⟨v1, h1, _⟩, q1, _⟩
      rw [← HE.out] at h1
      have H1 : Hid (Ris w1 b (applyN L F (k + 1)) ∧ Below w0.heap.size w0 w1) := ⟨⟨v1, h1⟩, HS.out.2.trans (((below_alloc wr _).mono (by have := hz.out; omega)).trans (q1.mono hb))⟩
      clear h1 q1 HS y0 y1 y2 hb1 ho1
      go_wp2
      go_roundw
      case rel => exact ⟨k + 1, by omega, by go_num, H1⟩
      case measure => simp [intOf]; omega
    have d2 : (n1 == 2) = false := beq_eq_false_iff_ne.2 k2
    have HE : Hid (applyN L F (k + 1) = applyN L F k) := by unfold Hid; rw [HP.out, stepA, if_neg k1, if_neg k2]
    clear k1 k2 HP
    have H1 : Hid (∀ o : Obj, Ris (wr.alloc o) b (applyN L F (k + 1)) ∧ Below w0.heap.size w0 (wr.alloc o)) := fun o => by
      rw [HE.out]
      exact ⟨HS.out.1.later (below_alloc _ _), HS.out.2.alloc (by have := hz.out; omega) _⟩
    go_wp2
    go_roundw
    case rel => exact ⟨k + 1, by omega, by go_num, H1.out _⟩
    case measure => simp [intOf]; omega
end Go.Proofs.YtnchaccgenfhoaaGreat

namespace Go.Proofs.YtnchaccgenfhoaaGreat
open Go.RowKit

theorem pairsF_all {F : Nat → Int} : ∀ {m k : Nat}, pairsF F m k = 0 → ∀ j, j < m → pairF F (k + j) = 0
  | 0, _, _, j, hj => absurd hj (Nat.not_lt_zero j)
  | m + 1, k, h, j, hj => by
    rw [pairsF] at h
    by_cases h0 : pairF F k = 0
    · rw [if_neg (fun q => q h0)] at h
      cases j with
      | zero => exact h0
      | succ j =>
        have := pairsF_all h j (by omega)
        rwa [show k + 1 + j = k + (j + 1) by omega] at this
    · rw [if_pos h0] at h
      exact absurd h h0
theorem faultOf_in {k : Int} (h : faultOf k = 0) : 0 ≤ k ∧ k ≤ 199 := by
  rcases Classical.em (k < 0 ∨ 199 < k) with q | q
  · rw [faultOf_range q] at h; omega
  · omega
theorem pairF_zero {F : Nat → Int} {k : Nat} (h : pairF F k = 0) : faultOf (F (k * 2)) = 0 ∧ (0 ≤ F (k * 2 + 1) ∧ F (k * 2 + 1) ≤ 9999) ∧ (0 < k → F ((k - 1) * 2) < F (k * 2)) := by
  unfold pairF at h
  by_cases h1 : faultOf (F (k * 2)) = 0
  · rw [if_neg (fun q => q h1)] at h
    by_cases h2 : 0 ≤ F (k * 2 + 1) ∧ F (k * 2 + 1) ≤ 9999
    · rw [if_neg (fun q => q h2)] at h
      by_cases h3 : 0 < k ∧ F (k * 2) ≤ F ((k - 1) * 2)
      · rw [if_pos h3] at h; omega
      · exact ⟨h1, h2, fun q => by omega⟩
    · rw [if_pos h2] at h; omega
  · rw [if_pos h1] at h; exact absurd h h1
/-- A list without a fault: its keys rise, and it is short. -/
theorem pairs_rise {F : Nat → Int} {n : Nat} (h : pairsF F n 0 = 0) : Rises (listOf F n) ∧ n ≤ 200 := by
  have hall : ∀ j, j < n → pairF F j = 0 := fun j hj => by have := pairsF_all h j hj; rwa [Nat.zero_add] at this
  have hup : ∀ d i, i + d < n → F (i * 2) + d ≤ F ((i + d) * 2) := fun d => by
    induction d with
    | zero => intro i _; simp
    | succ d ih =>
      intro i hi
      have h1 := ih i (by omega)
      have h2 := (pairF_zero (hall (i + (d + 1)) hi)).2.2 (by omega)
      rw [show i + (d + 1) - 1 = i + d by omega] at h2
      omega
  constructor
  · refine List.pairwise_iff_getElem.2 fun i j hi hj hij => ?_
    rw [listOf_length] at hi hj
    simp only [listOf, List.getElem_map, List.getElem_range]
    have := hup (j - i) i (by omega)
    rw [show i + (j - i) = j by omega] at this
    omega
  · rcases Nat.lt_or_ge 200 n with q | q
    · have h1 := hup 200 0 (by omega)
      have h2 := faultOf_in (pairF_zero (hall (0 + 200) (by omega))).1
      have h3 := faultOf_in (pairF_zero (hall 0 (by omega))).1
      simp only [Nat.zero_add, Nat.zero_mul] at h1 h2 h3
      omega
    · exact q
/-- Whether a key has a pair, and its value. -/
def lookF (L : Prs) (k : Int) : Bool × Int := match L.find? (fun e => e.1 == k) with
  | some e => (true, e.2)
  | none => (false, 0)
theorem lookF_at {L : Prs} {k : Int} {i : Nat} (hi : i < L.length) (h : ∀ j, j < i → (L.getD j (0, 0)).1 ≠ k) (h1 : (L.getD i (0, 0)).1 = k) : lookF L k = (true, (L.getD i (0, 0)).2) := by
  unfold lookF
  have hf : L.find? (fun e => e.1 == k) = some (L.getD i (0, 0)) := by
    induction L generalizing i with
    | nil => simp at hi
    | cons e t ih =>
      cases i with
      | zero =>
        have : e.1 = k := by simpa using h1
        simp [this]
      | succ i =>
        have h0 := h 0 (by omega)
        have : ¬ e.1 = k := by simpa using h0
        rw [List.find?_cons_of_neg (by simpa using this), List.getD_cons_succ]
        exact ih (by simpa using hi) (fun j hj => by have := h (j + 1) (by omega); simpa using this) (by simpa using h1)
  rw [hf]
theorem lookF_no {L : Prs} {k : Int} (h : ∀ j, j < L.length → (L.getD j (0, 0)).1 ≠ k) : lookF L k = (false, 0) := by
  unfold lookF
  have hf : L.find? (fun e => e.1 == k) = none := by
    refine List.find?_eq_none.2 fun e he => ?_
    obtain ⟨i, hi, rfl⟩ := List.getElem_of_mem he
    have := h i hi
    simp only [List.getD_eq_getElem?_getD, List.getElem?_eq_getElem hi, Option.getD_some] at this
    simpa using this
  rw [hf]
theorem look_at {L : Prs} {k : Int} (h : atKey L k) : lookF L k = (true, (L.getD (aheadN L k) (0, 0)).2) := lookF_at h.1 (fun j hj => by have := aheadN_lt hj; omega) h.2
theorem look_no {L : Prs} (hr : Rises L) {k : Int} (h : ¬ atKey L k) : lookF L k = (false, 0) := by
  refine lookF_no fun j hj => ?_
  rcases Nat.lt_or_ge j (aheadN L k) with q | q
  · have := aheadN_lt q; omega
  · have h1 := aheadN_not (L := L) (k := k) (by omega)
    have h2 : (L.getD (aheadN L k) (0, 0)).1 ≠ k := fun e => h ⟨by omega, e⟩
    rcases Nat.eq_or_lt_of_le q with e | q
    · rw [← e]; exact h2
    · have := List.pairwise_iff_getElem.1 hr (aheadN L k) j (by omega) hj q
      simp only [List.getD_eq_getElem?_getD, List.getElem?_eq_getElem hj, List.getElem?_eq_getElem (show aheadN L k < L.length by omega), Option.getD_some] at h1 h2 ⊢
      omega
set_option maxRecDepth 100000 in
set_option maxHeartbeats 2000000 in
theorem l11Value_any (L : Prs) (v : Value) (B : Nat) (key : Int) (w : World) (h : Row w B 2 L.length (rowL L) v) (hn : L.length ≤ 1048576) :
    Calls Tryz.prog 53 #[v, .int .i64 key] w fun e w' => e = .returned (.tuple #[.int .i64 (lookF L key).2, .bool (lookF L key).1]) ∧ w' = w := by
  obtain ⟨ao, cp, rfl⟩ := h.form
  have H : Hid (Row w B 2 L.length (rowL L) (.slice ao L.length cp)) := h
  clear h
  obtain ⟨r, hr⟩ : ∃ r, lookF L key = r := ⟨_, rfl⟩
  have HR : Hid (lookF L key = r) := hr
  rw [hr]
  clear hr
  obtain ⟨r1, r2⟩ := r
  go_enter Tryz.func53, Tryz.ntmps53
  go_wp2
  go_loopw [6] (fun i wr => ∃ k : Nat, k ≤ L.length ∧ i = .int .i64 k ∧ Hid (∀ j, j < k → (L.getD j (0, 0)).1 ≠ key) ∧ wr = w) (fun i _ => L.length - (intOf i).toNat)
  case atStart => exact ⟨0, Nat.zero_le _, rfl, fun j hj => absurd hj (Nat.not_lt_zero j), rfl⟩
  case round =>
    obtain ⟨k, hk, rfl, HS, rfl⟩ := hrel
    by_cases hlt : k < L.length
    case neg =>
      have HE : Hid (r1 = false ∧ r2 = 0) := by
        have := HR.out.symm.trans (lookF_no fun j hj => HS.out j (by omega))
        exact (by simpa using this : r1 = false ∧ r2 = 0)
      clear HS HR
      go_wp2
      go_ret2
      rw [HE.out.1, HE.out.2]
      exact ⟨rfl, rfl⟩
    obtain ⟨g, o, hao, _, hg, y0, y1⟩ := H.out.at2 hlt
    subst hao
    rw [rowL_key] at y0
    rw [rowL_val] at y1
    obtain ⟨n0, N0⟩ : ∃ x, (L.getD k (0, 0)).1 = x := ⟨_, rfl⟩
    rw [N0] at y0
    obtain ⟨n1, N1⟩ : ∃ x, (L.getD k (0, 0)).2 = x := ⟨_, rfl⟩
    rw [N1] at y1
    have NN : Hid ((L.getD k (0, 0)).1 = n0 ∧ (L.getD k (0, 0)).2 = n1) := ⟨N0, N1⟩
    clear N0 N1
    by_cases he : n0 = key
    · have HE : Hid (r1 = true ∧ r2 = n1) := by
        have := HR.out.symm.trans (lookF_at hlt HS.out (NN.out.1.trans he))
        rw [NN.out.2] at this
        exact (by simpa using this : r1 = true ∧ r2 = n1)
      subst he
      clear HS HR NN
      go_wp2
      go_ret2
      rw [HE.out.1, HE.out.2]
      exact ⟨rfl, rfl⟩
    · have HS1 : Hid (∀ j, j < k + 1 → (L.getD j (0, 0)).1 ≠ key) := fun j hj => by
        rcases Nat.eq_or_lt_of_le (Nat.lt_succ_iff.1 hj) with rfl | q
        · rw [NN.out.1]; exact he
        · exact HS.out j q
      have d : (n0 == key) = false := beq_eq_false_iff_ne.2 he
      clear he HS HR NN
      go_wp2
      go_roundw
      case rel => exact ⟨k + 1, by omega, by go_num, HS1, trivial⟩
      case measure => simp [intOf]; omega
theorem row_list {w : World} {B n : Nat} {F : Nat → Int} {v : Value} (h : Row w B 2 n F v) : Row w B 2 (listOf F n).length (rowL (listOf F n)) v := by
  rw [listOf_length]
  exact row_eqP h fun p hp => (rowL_listOf hp).symm
end Go.Proofs.YtnchaccgenfhoaaGreat

namespace Go.Proofs.YtnchaccgenfhoaaGreat
open Go.RowKit Go.Maps

theorem intKeyed : Keyed Tryz.prog 2 := int_keyed Tryz.underlying2
def sightD (s : Bool × Int) : DataW Unit := .agg [.lit (.bool s.1), .lit (.int .i64 s.2)]
def sightR (v : Value) : Option (DataW Unit × List MemPlace) :=
  match v with
  | .agg cs => match cs.toList with
    | [.bool h, .int .i64 x] => some (sightD (h, x), [])
    | _ => none
  | _ => none
theorem sightR_mk (s : Bool × Int) : sightR (.agg #[.bool s.1, .int .i64 s.2]) = some (sightD s, []) := rfl
theorem sightR_inv {v : Value} {s : Bool × Int} {ps : List MemPlace} (h : sightR v = some (sightD s, ps)) : v = .agg #[.bool s.1, .int .i64 s.2] := by
  unfold sightR at h
  split at h
  · rename_i cs
    split at h
    · rename_i hh xx e
      simp only [sightD, Option.some.injEq, Prod.mk.injEq, DataW.agg.injEq, List.cons.injEq, DataW.lit.injEq, Lit.bool.injEq, Lit.int.injEq, true_and, and_true] at h
      obtain ⟨⟨rfl, rfl⟩, _⟩ := h
      have : cs = #[.bool s.1, .int .i64 s.2] := by rw [← Array.toList_inj]; exact e
      rw [this]
    · cases h
  · cases h
/-- Block b is a map of at most n entries: at key k it has m k. -/
def SM (w : World) (b n : Nat) (m : Int → Option (Bool × Int)) : Prop :=
  ∃ D : DataW Unit, w.ownsMap Tryz.prog 2 sightR b n D ∧ ∀ x, (Lit.int .i64 x).wf = true → Maps.has D (.int .i64 x) = (m x).isSome ∧ D.atKey (.int .i64 x) (sightD (false, 0)) = sightD ((m x).getD (false, 0))
theorem SM.made (w : World) : SM (w.alloc (.map #[] 0)) w.heap.size 0 (fun _ => none) := ⟨.map [], World.ownsMap_made w _ _ _, fun _ _ => ⟨rfl, rfl⟩⟩
theorem SM.lt {w : World} {b n : Nat} {m : Int → Option (Bool × Int)} (h : SM w b n m) : b < w.heap.size := by
  obtain ⟨D, h, _⟩ := h; exact h.lt
theorem SM.kept {w w' : World} {b n : Nat} {m : Int → Option (Bool × Int)} (h : SM w b n m) (hb : w'.heap[b]? = w.heap[b]?) : SM w' b n m := by
  obtain ⟨D, ⟨es, clock, h1, h2⟩, r⟩ := h
  exact ⟨D, ⟨es, clock, hb.trans h1, h2⟩, r⟩
theorem SM.later {w w' : World} {b n : Nat} {m : Int → Option (Bool × Int)} (h : SM w b n m) (hb : Below w.heap.size w w') : SM w' b n m := h.kept (hb.block b h.lt)
theorem zero_sight (w : World) : (zeroValue 102).run Tryz.prog w = .ok (.agg #[.bool false, .int .i64 0]) w := by kernel_rfl
/-- 'v, ok := m[k]', 'm[k]'. -/
theorem SM.look {w : World} {b n : Nat} {m : Int → Option (Bool × Int)} (h : SM w b n m) {x : Int} (hx : (Lit.int .i64 x).wf = true) :
    (Instr.lookup 113 (.map (some b)) (.int .i64 x) true).run Tryz.prog w = .ok (.tuple #[.agg #[.bool ((m x).getD (false, 0)).1, .int .i64 ((m x).getD (false, 0)).2], .bool (m x).isSome]) w := by
  obtain ⟨D, h, r⟩ := h
  obtain ⟨v, ps, hrun, hv⟩ := h.look_ok intKeyed Tryz.underlying113 (zero_sight w) (sightR_mk (false, 0)) (keyOf_int_mk Tryz.underlying2 hx)
  rw [(r x hx).2] at hv
  rw [hrun, (r x hx).1, sightR_inv hv]
theorem SM.look1 {w : World} {b n : Nat} {m : Int → Option (Bool × Int)} (h : SM w b n m) {x : Int} (hx : (Lit.int .i64 x).wf = true) :
    (Instr.lookup 113 (.map (some b)) (.int .i64 x) false).run Tryz.prog w = .ok (.agg #[.bool ((m x).getD (false, 0)).1, .int .i64 ((m x).getD (false, 0)).2]) w := by
  obtain ⟨D, h, r⟩ := h
  obtain ⟨v, ps, hrun, hv⟩ := h.lookup intKeyed Tryz.underlying113 (zero_sight w) (sightR_mk (false, 0)) (keyOf_int_mk Tryz.underlying2 hx)
  rw [(r x hx).2] at hv
  rw [hrun, sightR_inv hv]
theorem keyLit (x : Int) : WideAt.IsKeyLit (.int .i64 x) := trivial
def putS1 (m : Int → Option (Bool × Int)) (a : Int) (v : Bool × Int) (x : Int) : Option (Bool × Int) := if x = a then some v else m x
/-- 'm[k] = v'. -/
theorem SM.put {w : World} {b n : Nat} {m : Int → Option (Bool × Int)} (h : SM w b n m) (hn : n < maxLen) {x : Int} (hx : (Lit.int .i64 x).wf = true) (s : Bool × Int) :
    ∃ w', (Instr.mapUpdate 113 (.map (some b)) (.int .i64 x) (.agg #[.bool s.1, .int .i64 s.2])).run Tryz.prog w = .ok () w' ∧ SM w' b (n + 1) (putS1 m x s) ∧ w.grownBy w' (some b) := by
  obtain ⟨D, h, r⟩ := h
  obtain ⟨w', hrun, h', hg⟩ := h.update intKeyed Tryz.underlying113 hn (keyOf_int_mk Tryz.underlying2 hx) (sightR_mk s)
  refine ⟨w', hrun, ⟨_, h', fun p hp => ?_⟩, hg⟩
  unfold putS1
  by_cases e : p = x
  · subst e
    rw [if_pos rfl]
    exact ⟨has_put_same h.isMap (keyLit _) _, atKey_put_same h.isMap (keyLit _) _ _⟩
  · rw [if_neg e, has_put_other (fun q => e (by simpa using q)), atKey_put_other (fun q => e (by simpa using q))]
    exact r p hp
theorem wf_key {a : Int} (h0 : 0 ≤ a) (h1 : a ≤ 100000) : (Lit.int .i64 a).wf = true := by
  have e0 : IntKind.i64.min = -9223372036854775808 := by decide
  have e1 : IntKind.i64.max = 9223372036854775807 := by decide
  simp [Lit.wf, e0, e1]
  omega
end Go.Proofs.YtnchaccgenfhoaaGreat

