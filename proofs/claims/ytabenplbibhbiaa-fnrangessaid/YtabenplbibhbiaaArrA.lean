/-
  Own text. An array of six ranges in one block: plain facts; the program's arrayOf.
-/
import Derived.Test.YtabenplbibhbiaaAppR
import Derived.Test.YtabenplbibhbiaaRngE
import Derived.Laws.IdiomCopy
import Derived.Laws.Rows
import Derived.Laws.Tables
import Derived.Test.YtabenplbibhbiaaRngA
import Derived.Deep.Cut
namespace Go.Proofs.Ytabenplbibhbiaa
open Go.RowKit

/-- The array's 18 numbers. -/
def arrV (A : Nat → Int) : Array Value := (vals A 18).toArray
theorem arrV_size (A : Nat → Int) : (arrV A).size = 18 := by simp [arrV, vals_length]
theorem arrV_one (A : Nat → Int) : (arrV A).all (·.oneCell') = true := by
  rw [Array.all_eq_true]
  intro i hi
  exact vals_one A 18 _ (by simp [arrV])
theorem arrV_congr {A C : Nat → Int} (h : ∀ p, p < 18 → A p = C p) : arrV A = arrV C := by
  unfold arrV vals
  congr 1
  refine List.map_congr_left fun p hp => ?_
  rw [h p (List.mem_range.1 hp)]
/-- Block g is the array A. -/
def ArrB (x : World) (g : Nat) (A : Nat → Int) : Prop := x.heap[g]? = some (.cells (arrV A) 57)
theorem ArrB.lt {x : World} {g : Nat} {A : Nat → Int} (h : ArrB x g A) : g < x.heap.size := (Array.getElem?_eq_some_iff.1 h).1
theorem ArrB.kept {x x' : World} {g : Nat} {A : Nat → Int} (h : ArrB x g A) (hb : x'.heap[g]? = x.heap[g]?) : ArrB x' g A := hb.trans h
theorem ArrB.later {x x' : World} {g : Nat} {A : Nat → Int} (h : ArrB x g A) (hb : Below x.heap.size x x') : ArrB x' g A := h.kept (hb.block g h.lt)
theorem ArrB.alloc {x : World} {g : Nat} {A : Nat → Int} (h : ArrB x g A) (o : Obj) : ArrB (x.alloc o) g A := h.later (below_alloc _ _)
theorem ArrB.cell {x : World} {g : Nat} {A : Nat → Int} (h : ArrB x g A) {p : Nat} (hp : p < 18) : x.cell? ⟨g, p, none⟩ = some (.int .i64 (A p)) := by
  unfold ArrB at h
  have : (arrV A)[p]? = some (.int .i64 (A p)) := by simp [arrV, vals, hp]
  simp [World.cell?, h, this]
theorem ArrB.frozen {x : World} {g : Nat} {A : Nat → Int} (h : ArrB x g A) (p : Nat) : x.frozen? ⟨g, p, none⟩ = false := by
  unfold ArrB at h
  simp [World.frozen?, h]
theorem ArrB.of {x : World} {g : Nat} {A : Nat → Int} {cur : Array Value} (h : x.heap[g]? = some (.cells cur 57)) (hs : cur.size = 18) (hc : ∀ p, p < 18 → x.cell? ⟨g, p, none⟩ = some (.int .i64 (A p))) : ArrB x g A := by
  unfold ArrB
  rw [h]
  congr 2
  apply Array.ext
  · rw [hs, arrV_size]
  · intro p h1 h2
    have := hc p (by omega)
    simp [World.cell?, h, h1] at this
    rw [this]
    simp [arrV, vals]
theorem setCell_block {x : World} {g : Nat} {cur : Array Value} {t : TypeId} (h : x.heap[g]? = some (.cells cur t)) (o : Nat) (u : Value) : (x.setCell ⟨g, o, none⟩ u).heap[g]? = some (.cells (cur.setIfInBounds o u) t) := by
  simp [World.setCell, Array.getElem?_modify, h]
theorem setCells_block {g : Nat} {t : TypeId} : ∀ (vs : List Value) (o : Nat) (x : World) (cur : Array Value), x.heap[g]? = some (.cells cur t) → ∃ cur', (x.setCells g o vs).heap[g]? = some (.cells cur' t) ∧ cur'.size = cur.size
  | [], _, _, cur, h => ⟨cur, h, rfl⟩
  | v :: r, o, x, cur, h => by
    obtain ⟨c, h1, h2⟩ := setCells_block r (o + 1) (x.setCell ⟨g, o, none⟩ v) _ (setCell_block h o v)
    exact ⟨c, h1, by rw [h2]; simp⟩
/-- Numbers laid over an array. -/
def overA (A : Nat → Int) (o k : Nat) (C : Nat → Int) (p : Nat) : Int := if o ≤ p ∧ p < o + k then C (p - o) else A p
theorem ArrB.sets {x : World} {g : Nat} {A : Nat → Int} (h : ArrB x g A) (o k : Nat) (C : Nat → Int) (hk : o + k ≤ 18) : ArrB (x.setCells g o (vals C k)) g (overA A o k C) := by
  obtain ⟨c, h1, h2⟩ := setCells_block (vals C k) o x (arrV A) h
  refine ArrB.of h1 (by rw [h2, arrV_size]) (fun p hp => ?_)
  unfold overA
  by_cases hq : o ≤ p ∧ p < o + k
  · rw [if_pos hq]
    have hj : p - o < (vals C k).length := by rw [vals_length]; omega
    have := World.cell?_setCells_in g (vals C k) o x (fun j hj => by rw [vals_length] at hj; rw [h.cell (by omega)]; rfl) (p - o) hj
    rw [show o + (p - o) = p by omega] at this
    rw [this]
    simp [vals]
  · rw [if_neg hq]
    rw [World.cell?_setCells_out g (vals C k) o x _ (fun _ _ => by rw [vals_length]; show p < o ∨ o + k ≤ p; omega)]
    exact h.cell hp
theorem sets_grown (g : Nat) : ∀ (vs : List Value) (o : Nat) (w : World), w.grownBy (w.setCells g o vs) (some g)
  | [], _, _ => ⟨rfl, rfl, rfl, Nat.le_refl _, fun _ _ _ => rfl⟩
  | v :: r, o, w => by
    have ih := sets_grown g r (o + 1) (w.setCell ⟨g, o, none⟩ v)
    refine ⟨ih.os, ih.tape, ih.output, Nat.le_trans (by simp) ih.size, fun i hi hne => (ih.block i (by simpa using hi) hne).trans (Below.heap_setCell w _ _ i (fun e => hne (by rw [e])))⟩
theorem run_copyR (w : World) (dT sT ty elem : TypeId) (m b o dLen dCap : Nat) (a : Addr) (sLen sCap : Nat) (cs : List Value)
    (hu : Try.prog.underlying dT = some (.slice elem)) (hs : (Try.prog.info? elem).map (·.size) = some m) (hn : cs.length = Nat.min sLen dLen * m)
    (hsrc : ∀ j v, cs[j]? = some v → w.cell? (a.add j) = some v) (hc : ∀ j, j < cs.length → (w.cell? ⟨b, o + j, none⟩).isSome = true) (hf : ∀ j, j < cs.length → w.frozen? ⟨b, o + j, none⟩ = false) (h1 : ∀ v ∈ cs, v.oneCell' = true) :
    (Builtin.copy_ #[dT, sT] ty #[.slice (some ⟨b, o, none⟩) dLen dCap, .slice (some a) sLen sCap]).run Try.prog w = .ok (goInt (Nat.min sLen dLen)) (w.setCells b o cs) := by
  have hl := run_loadCells_list (P := Try.prog) w a cs hsrc
  have hst := run_storeCells_cells (P := Try.prog) b o cs 0 w (by simpa using hc) (by simpa using hf) h1
  cases hq : Try.prog.info? elem with
  | none => simp [hq] at hs
  | some i =>
    have hi : i.size = m := by simpa [hq] using hs
    simp [Builtin.copy_, run_underlying hu, Builtin.lenOf, Builtin.firstCells, sizeOf, typeInfo, hq, hi, ← hn, hl, hst]
theorem run_copyA (w : World) (ty : TypeId) (g o dLen dCap : Nat) (A : Nat → Int) (hA : ArrB w g A) (x : Value) (B n k : Nat) (F : Nat → Int) (ao : Option Addr) (cp : Nat) (hk : k = Nat.min n dLen) (h : Row w B 3 n F (.slice ao n cp)) (hao : ao ≠ none) (hx : x = .slice ao n cp) (hr : o + k * 3 ≤ 18) :
    (Builtin.copy_ #[24, 24] ty #[.slice (some ⟨g, o, none⟩) dLen dCap, x]).run Try.prog w = .ok (goInt k) (w.setCells g o (vals F (k * 3))) := by
  subst hx
  have hkn : k ≤ n := by rw [hk]; exact Nat.min_le_left _ _
  cases ao with
  | none => exact absurd rfl hao
  | some a =>
    have hi : (Try.prog.info? 34).map (·.size) = some 3 := by kernel_rfl
    have := run_copyR w 24 24 ty 34 3 g o dLen dCap a n cp (vals F (k * 3)) Try.underlying24 hi (by rw [vals_length, hk]) (fun j v hv => by
      obtain ⟨hj, rfl⟩ := vals_inv hv
      refine row_cells h j _ ?_
      exact vals_at F (n * 3) j (by omega)) (fun j hj => by rw [vals_length] at hj; rw [hA.cell (by omega)]; rfl) (fun j hj => hA.frozen _) (vals_one _ _)
    rw [this, hk]
theorem wpList_copyA {w : World} {ops : Array Oper} {rest : List Oper} {o : Oper} {a : Act} {Q : Exit → Act → World → Prop} (hgd : o.guard = none) (d s : Operand)
    (ho : o.op = .call { callee := .builtin .copy, args := #[d, s], argTypes := #[24, 24] }) (g o' dLen dCap : Nat) (A : Nat → Int) (hA : ArrB w g A) (x : Value) (B n k : Nat) (F : Nat → Int) (ao : Option Addr) (cp : Nat) (hk : k = Nat.min n dLen) (h : Row w B 3 n F (.slice ao n cp)) (hao : ao ≠ none) (hx : x = .slice ao n cp) (hr : o' + k * 3 ≤ 18)
    (hd : a.eval d = .slice (some ⟨g, o', none⟩) dLen dCap) (hs : a.eval s = x)
    (hK : ∀ w', ArrB w' g (overA A o' (k * 3) F) → w.grownBy w' (some g) → wpList Try.prog ops Q rest (a.put o.dst (.int .i64 k)) w') : wpList Try.prog ops Q (o :: rest) a w := by
  refine wpList_plain hgd fun K hK' => ?_
  have hr' := run_copyA w o.type g o' dLen dCap A hA x B n k F ao cp hk h hao hx hr
  unfold Oper.wp execOp
  simp only [ho, resolve, invoke, builtin, Sem.run_bind, Sem.run_pure, Result.andThen_ok, List.map_toArray, List.map_cons, List.map_nil, hd, hs, hr']
  exact hK' _ _ (hK _ (hA.sets o' (k * 3) F hr) (sets_grown g _ o' w))
/-- The array of a list. -/
def arrF (n : Nat) (F : Nat → Int) (p : Nat) : Int := if p < n * 3 then F p else 0
theorem ArrB.zero (w : World) : ArrB (w.alloc (.cells (Array.replicate 18 (.int .i64 0)) 57)) w.heap.size (fun _ => 0) := by
  unfold ArrB
  rw [heap_alloc_new]
  congr 2
theorem below_setRow {B : Nat} {w z : World} (h : Below B w z) {g : Nat} (hg : B ≤ g) (cs : Array Value) : Below B w (z.setRow g cs) :=
  ⟨h.os, h.tape, h.output, by simpa [World.setRow] using h.size, fun k hk => by
    have : (z.setRow g cs).heap[k]? = z.heap[k]? := by simp [World.setRow, Array.getElem?_modify]; omega
    exact this.trans (h.block k hk)⟩
set_option maxRecDepth 100000 in
set_option maxHeartbeats 1000000 in
theorem arrayOf_is (ao : Option Addr) (cp B n : Nat) (F : Nat → Int) (w : World) (h : Row w B 3 n F (.slice ao n cp)) (h1 : 1 ≤ n) (h6 : n ≤ 6) :
    Calls Try.prog 36 #[.slice ao n cp] w fun e w' => e = .returned (.agg (arrV (arrF n F))) ∧ Below w.heap.size w w' := by
  obtain ⟨g, o, hao, _⟩ := h.at (k := 0) (by omega)
  subst hao
  have H : Hid (Row w B 3 n F (.slice (some ⟨g, o, none⟩) n cp)) := h
  clear h
  go_enter Try.func36, Try.ntmps36
  go_upto_region 2 with fail
  obtain ⟨x, hx⟩ : ∃ x, x = w.alloc (.cells (Array.replicate 18 (.int .i64 0)) 57) := ⟨_, rfl⟩
  obtain ⟨y, hy⟩ : ∃ y, y = x.alloc (.cells (Array.replicate 18 (.int .i64 0)) 57) := ⟨_, rfl⟩
  have hxs : x.heap.size = w.heap.size + 1 := by rw [hx, World.size_alloc]
  have A0 : Hid (ArrB y w.heap.size (fun _ => 0)) := by unfold Hid; rw [hy, hx]; exact (ArrB.zero w).alloc _
  have A1 : Hid (ArrB y (w.heap.size + 1) (fun _ => 0)) := by unfold Hid; rw [hy, ← hxs]; exact ArrB.zero x
  have Q : Hid (Below w.heap.size w y) := by unfold Hid; rw [hy, hx]; exact (below_alloc _ _).alloc (by simp) _
  show Code.wp _ _ _ _ (World.alloc (World.alloc w (.cells (Array.replicate 18 (.int .i64 0)) 57)) (.cells (Array.replicate 18 (.int .i64 0)) 57))
  rw [← hx, ← hy]
  clear hx hy hxs
  have hm : Hid (n = Nat.min n 6) := (Nat.min_eq_left h6).symm
  have hr : 0 + n * 3 ≤ 18 := by omega
  have hcp := run_copyA y 3 (w.heap.size + 1) 0 6 6 (fun _ => 0) A1.out _ B n n F (some ⟨g, o, none⟩) cp hm.out (H.out.later Q.out) (fun q => by cases q) rfl hr
  go_upto_region 3 with fail
  obtain ⟨z, hz⟩ : ∃ z, z = y.setCells (w.heap.size + 1) 0 (vals F (n * 3)) := ⟨_, rfl⟩
  have this := A1.out.sets 0 (n * 3) F hr
  rw [← hz] at this ⊢
  have G2 : y.grownBy z (some (w.heap.size + 1)) := by rw [hz]; exact sets_grown _ _ _ _
  have A2 : Hid (ArrB z (w.heap.size + 1) (arrF n F)) := by
    unfold Hid
    unfold ArrB at this ⊢
    rw [this]
    congr 2
    refine arrV_congr fun p _ => ?_
    unfold overA arrF
    by_cases hp : p < n * 3
    · rw [if_pos (by omega), if_pos hp, Nat.sub_zero]
    · rw [if_neg (by omega), if_neg hp]
  have A3 : Hid (ArrB z w.heap.size (fun _ => 0)) := A0.out.kept (G2.block _ A0.out.lt (by simp))
  have Q3 : Hid (Below w.heap.size w z) := Q.out.grown G2 Q.out.size (fun r e => by cases e; omega)
  clear hcp hz this G2 A0 A1 Q
  have A2' : z.heap[w.heap.size + 1]? = some (.cells (arrV (arrF n F)) 57) := A2.out
  have A3' : z.heap[w.heap.size]? = some (.cells (arrV (fun _ => 0)) 57) := A3.out
  go_wp2_with (first
    | refine wpList_load_row rfl 57 _ rfl (w.heap.size + 1) rfl _ _ _ _ A2' Try.underlying57 rfl (by rw [arrV_size]; kernel_rfl) ?_
    | refine wpList_store_row rfl 57 _ _ rfl w.heap.size (arrV (arrF n F)) rfl rfl _ _ A3' (by rw [arrV_size]; kernel_rfl) (by rw [arrV_size, arrV_size]) (arrV_one _) ?_)
  exact bodyPost_ret (v := .agg (arrV (arrF n F))) (results_cell_row Try.results36 _ _ w.heap.size _ _ _ _ rfl (setRow_heap _ _ _ _ _ _ A3') Try.underlying57 rfl (by rw [arrV_size]; kernel_rfl)) rfl ⟨rfl, below_setRow Q3.out (Nat.le_refl _) _⟩
end Go.Proofs.Ytabenplbibhbiaa
