/-
  Own text. The program's replaced: an array of ranges with some put in the place of others.
-/
import Derived.Test.YtabenplbibhbiaaArrA
namespace Go.Proofs.Ytabenplbibhbiaa
open Go.RowKit

theorem run_clearA (w : World) (ty : TypeId) (g o k c : Nat) (A : Nat → Int) (hA : ArrB w g A) (hk : 0 < k) (hr : o + k * 3 ≤ 18) :
    (Builtin.clear_ #[24] ty #[.slice (some ⟨g, o, none⟩) k c]).run Try.prog w = .ok (.tuple #[]) (w.setCells g o (vals (fun _ => 0) (k * 3))) := by
  obtain ⟨i, hi, hz, hs, hb⟩ := info_parts info_Range
  have hv : (zeroValue 34).run Try.prog w = .ok (.agg #[.int .i64 0, .int .i64 0, .int .i64 0]) w := by
    simp [zeroValue, typeInfo, hi, hz]
  have he : (Builtin.zeroCells (Value.agg #[.int .i64 0, .int .i64 0, .int .i64 0]).cells k).toList = vals (fun _ => 0) (k * 3) := by
    simp only [Builtin.zeroCells, Value.cells, vals]
    apply List.ext_getElem
    · simp
    · intro p h1 h2
      simp
      have : p % 3 = 0 ∨ p % 3 = 1 ∨ p % 3 = 2 := by omega
      rcases this with q | q | q <;> rw [q] <;> rfl
  have hst := run_storeCells_cells (P := Try.prog) g o (vals (fun _ => 0) (k * 3)) 0 w (fun j hj => by rw [vals_length] at hj; rw [Nat.add_zero, hA.cell (by omega)]; rfl) (fun j hj => by rw [Nat.add_zero]; exact hA.frozen _) (vals_one _ _)
  simp only [Nat.add_zero] at hst
  obtain ⟨q, rfl⟩ : ∃ q, k = q + 1 := ⟨k - 1, by omega⟩
  simp [Builtin.clear_, run_underlying Try.underlying24, hv, he, hst]
/-- Where the array's part from p on begins. -/
def off6 (p : Nat) : Nat := if p = 6 then 0 else p * 3
set_option maxRecDepth 100000 in
theorem run_sliceA (w : World) (g p : Nat) (hp : p ≤ 6) : (Instr.sliceAt 57 (.pointer (some ⟨g, 0, none⟩)) (some (.int .i64 (p : Int))) none none).run Try.prog w = .ok (.slice (some ⟨g, off6 p, none⟩) (6 - p) (6 - p)) w := by
  have hc : p = 0 ∨ p = 1 ∨ p = 2 ∨ p = 3 ∨ p = 4 ∨ p = 5 ∨ p = 6 := by omega
  rcases hc with rfl | rfl | rfl | rfl | rfl | rfl | rfl <;> rfl
theorem step_copyA {w : World} {ops : Array Oper} {o : Oper} {a : Act} {K : Act → World → Prop} {Q : Exit → Act → World → Prop} {E : Prop} (hgd : o.guard = none) (d s : Operand)
    (ho : o.op = .call { callee := .builtin .copy, args := #[d, s], argTypes := #[24, 24] }) (g o' dLen dCap : Nat) (A : Nat → Int) (hA : ArrB w g A) (B n k : Nat) (F : Nat → Int) (ao : Option Addr) (cp : Nat) (hk : k = Nat.min n dLen) (h : Row w B 3 n F (.slice ao n cp)) (hao : ao ≠ none) (hr : o' + k * 3 ≤ 18)
    (hd : a.eval d = .slice (some ⟨g, o', none⟩) dLen dCap) (hs : a.eval s = .slice ao n cp)
    (hK : ∀ w', ArrB w' g (overA A o' (k * 3) F) → w.grownBy w' (some g) → K (a.put o.dst (.int .i64 k)) w') : if Region.wanted o (yielded ops a.tmps) = true then Oper.wp Try.prog o a w K Q else E := by
  have hw : Region.wanted o (yielded ops a.tmps) = true := by simp [Region.wanted, hgd]
  rw [if_pos hw]
  have hr' := run_copyA w o.type g o' dLen dCap A hA _ B n k F ao cp hk h hao rfl hr
  unfold Oper.wp execOp
  simp only [ho, resolve, invoke, builtin, Sem.run_bind, Sem.run_pure, Result.andThen_ok, List.map_toArray, List.map_cons, List.map_nil, hd, hs, hr']
  exact hK _ (hA.sets o' (k * 3) F hr) (sets_grown g _ o' w)
theorem ArrB.tail {x : World} {g : Nat} {A : Nat → Int} (h : ArrB x g A) (p : Nat) (hp : p ≤ 6) (c : Nat) : Row x 0 3 (6 - p) (fun q => A (p * 3 + q)) (.slice (some ⟨g, off6 p, none⟩) (6 - p) c) := by
  refine ⟨_, _, rfl, fun hn => ⟨g, off6 p, rfl, Nat.zero_le _, h.lt, fun q hq => ?_⟩⟩
  have e : off6 p = p * 3 := by unfold off6; rw [if_neg (by omega)]
  rw [e]
  exact h.cell (by omega)
/-- What replaced answers. -/
def replF (A C : Nat → Int) (place gone k : Nat) : Nat → Int :=
  overA (overA (overA A (place * 3) ((6 - place) * 3) (fun _ => 0)) (place * 3) (k * 3) C) (off6 (place + k)) (Nat.min (6 - (place + gone)) (6 - (place + k)) * 3) (fun q => A ((place + gone) * 3 + q))
def ReplS (w : World) (b0 b1 : Nat) (A : Nat → Int) (X : World) : Prop := (ArrB X b0 A ∧ ArrB X b1 (fun _ => 0)) ∧ Below w.heap.size w X
set_option maxRecDepth 100000 in
set_option maxHeartbeats 1000000 in
theorem replaced_is (A C : Nat → Int) (place gone k : Nat) (co : Option Addr) (cc B : Nat) (w : World) (h : Row w B 3 k C (.slice co k cc)) (hk : 1 ≤ k) (hp : place + k ≤ 6) (hg : place + gone ≤ 6) :
    Calls Try.prog 37 #[.agg (arrV A), .int .i64 place, .int .i64 gone, .slice co k cc] w fun e w' => e = .returned (.agg (arrV (replF A C place gone k))) ∧ Below w.heap.size w w' := by
  obtain ⟨cg, co0, hco, _⟩ := h.at (k := 0) (by omega)
  subst hco
  have H : Hid (Row w B 3 k C (.slice (some ⟨cg, co0, none⟩) k cc)) := h
  clear h
  go_enter Try.func37, Try.ntmps37
  go_upto_region 1 with fail
  obtain ⟨x, hx⟩ : ∃ x, x = (w.alloc (.cells (arrV A) 57)).alloc (.cells (Array.replicate 18 (.int .i64 0)) 57) := ⟨_, rfl⟩
  have hxs : Hid (x.heap.size = w.heap.size + 2) := by unfold Hid; rw [hx]; simp
  have X0 : ArrB x w.heap.size A := by rw [hx]; exact ArrB.alloc (heap_alloc_new w _) _
  have X1 : ArrB x (w.heap.size + 1) (fun _ => 0) := by
    have := ArrB.zero (w.alloc (.cells (arrV A) 57))
    rw [World.size_alloc, ← hx] at this
    exact this
  have Q : Hid (Below w.heap.size w x) := by unfold Hid; rw [hx]; exact (below_alloc _ _).alloc (by simp) _
  show Code.wp _ _ _ _ (World.alloc (World.alloc w (.cells (arrV A) 57)) (.cells (Array.replicate 18 (.int .i64 0)) 57))
  rw [← hx]
  clear hx
  have X0' : x.heap[w.heap.size]? = some (.cells (arrV A) 57) := X0
  go_upto_region 2 with (first
    | refine wpList_load_row rfl 57 _ rfl w.heap.size rfl _ _ _ _ X0' Try.underlying57 rfl (by rw [arrV_size]; kernel_rfl) ?_
    | refine wpList_store_row rfl 57 _ _ rfl x.heap.size (arrV A) rfl rfl _ _ (heap_alloc_new x _) (by rw [arrV_size]; kernel_rfl) (by rw [arrV_size]; rfl) (arrV_one _) ?_)
  obtain ⟨y, hy⟩ : ∃ y, y = (x.alloc (.cells (Array.replicate 18 (.int .i64 0)) 57)).setRow x.heap.size (arrV A) := ⟨_, rfl⟩
  have Y2 : ArrB y x.heap.size A := by rw [hy]; exact setRow_heap _ _ _ _ _ _ (heap_alloc_new x _)
  have hne : ∀ g, g < x.heap.size → y.heap[g]? = x.heap[g]? := fun g hg => by
    rw [hy, setRow_other _ _ _ _ (Nat.ne_of_lt hg)]
    exact (below_alloc x _).block g hg
  have Y0 : ArrB y w.heap.size A := X0.kept (hne _ X0.lt)
  have Y1 : ArrB y (w.heap.size + 1) (fun _ => 0) := X1.kept (hne _ X1.lt)
  have QY : Hid (Below w.heap.size w y) := by
    unfold Hid
    rw [hy]
    exact below_setRow (Q.out.alloc Q.out.size _) (by have := hxs.out; omega) _
  have hys : Hid (y.heap.size = x.heap.size + 1) := by unfold Hid; rw [hy]; simp
  show Code.wp _ _ _ _ ((World.alloc x (.cells (Array.replicate 18 (.int .i64 0)) 57)).setRow x.heap.size (arrV A))
  rw [← hy]
  clear hy hne X0 X1 X0' Q
  have s0 := run_sliceA y x.heap.size place (by omega)
  have ho : off6 place = place * 3 := by unfold off6; rw [if_neg (by omega)]
  rw [ho] at s0
  have c0 := run_clearA y 0 x.heap.size (place * 3) (6 - place) (6 - place) A Y2 (by omega) (by omega)
  clear ho
  go_upto_region 3 with fail
  obtain ⟨z, hz⟩ : ∃ z, z = y.setCells x.heap.size (place * 3) (vals (fun _ => 0) ((6 - place) * 3)) := ⟨_, rfl⟩
  have Z2 := Y2.sets (place * 3) ((6 - place) * 3) (fun _ => 0) (by omega)
  have GZ := sets_grown x.heap.size (vals (fun _ => 0) ((6 - place) * 3)) (place * 3) y
  rw [← hz] at Z2 GZ ⊢
  have hne : w.heap.size ≠ x.heap.size ∧ w.heap.size + 1 ≠ x.heap.size := by have := hxs.out; omega
  have Z0 : ArrB z w.heap.size A := Y0.kept (GZ.block _ Y0.lt (by simp [hne.1]))
  have Z1 : ArrB z (w.heap.size + 1) (fun _ => 0) := Y1.kept (GZ.block _ Y1.lt (by simp [hne.2]))
  have QZ : Hid (Below w.heap.size w z) := QY.out.grown GZ QY.out.size (fun r e => by cases e; have := hxs.out; omega)
  clear hz GZ Y0 Y1 Y2 QY s0 c0 hys
  have s0 := run_sliceA z x.heap.size place (by omega)
  have ho : off6 place = place * 3 := by unfold off6; rw [if_neg (by omega)]
  rw [ho] at s0
  have c1 := run_copyA z 3 x.heap.size (place * 3) (6 - place) (6 - place) _ Z2 _ B k k C (some ⟨cg, co0, none⟩) cc (Nat.min_eq_left (by omega)).symm (H.out.later QZ.out) (fun q => by cases q) rfl (by omega)
  clear ho
  go_upto_region 4 with fail
  obtain ⟨u, hu⟩ : ∃ u, u = z.setCells x.heap.size (place * 3) (vals C (k * 3)) := ⟨_, rfl⟩
  have U2 := Z2.sets (place * 3) (k * 3) C (by omega)
  have GU := sets_grown x.heap.size (vals C (k * 3)) (place * 3) z
  rw [← hu] at U2 GU ⊢
  have U2' : Hid (ArrB u.drew x.heap.size (overA (overA A (place * 3) ((6 - place) * 3) (fun _ => 0)) (place * 3) (k * 3) C)) := U2
  have HU : ReplS w w.heap.size (w.heap.size + 1) A u := ⟨⟨Z0.kept (GU.block _ Z0.lt (by simp [hne.1])), Z1.kept (GU.block _ Z1.lt (by simp [hne.2]))⟩, QZ.out.grown GU QZ.out.size (fun r e => by cases e; have := hxs.out; omega)⟩
  clear hu GU U2 Z0 Z1 Z2 QZ s0 c1
  refine wp_region_held_drew (S := ReplS w w.heap.size (w.heap.size + 1) A) (by kernel_rfl) (show ReplS _ _ _ _ u.drew from ⟨HU.1, HU.2.drew⟩) (fun hS => ?_)
  clear HU
  have hwr : IntKind.i64.wrap ((place : Int) + gone) = place + gone := by simp [IntKind.wrap, IntKind.bits, IntKind.signed]; omega
  refine wpAnyH_take (i := 0) (v := ?_) rfl (by kernel_rfl) (by kernel_rfl) (by kernel_rfl) (fun _ _ _ h => h) (Or.inl ⟨by kernel_rfl, ?_⟩) hS ?_
  rotate_left
  · intro wx hx
    have s3 := run_sliceA wx x.heap.size (place + k) hp
    have s4 := run_sliceA wx w.heap.size (place + gone) hg
    rw [Int.natCast_add] at s3 s4
    go_simp
    try with_reducible rfl
  refine wpAnyH_take (i := 1) (v := ?_) rfl (by kernel_rfl) (by kernel_rfl) (by kernel_rfl) (fun _ _ _ h => h) (Or.inl ⟨by kernel_rfl, ?_⟩) hS ?_
  rotate_left
  · intro wx hx
    have s3 := run_sliceA wx x.heap.size (place + k) hp
    have s4 := run_sliceA wx w.heap.size (place + gone) hg
    rw [Int.natCast_add] at s3 s4
    go_simp
    try with_reducible rfl
  refine wpAnyH_take (i := 2) (v := ?_) rfl (by kernel_rfl) (by kernel_rfl) (by kernel_rfl) (fun _ _ _ h => h) (Or.inl ⟨by kernel_rfl, ?_⟩) hS ?_
  rotate_left
  · intro wx hx
    have s3 := run_sliceA wx x.heap.size (place + k) hp
    have s4 := run_sliceA wx w.heap.size (place + gone) hg
    rw [Int.natCast_add] at s3 s4
    go_simp
    try with_reducible rfl
  refine wpAnyH_take (i := 3) (v := ?_) rfl (by kernel_rfl) (by kernel_rfl) (by kernel_rfl) (fun _ _ _ h => h) (Or.inl ⟨by kernel_rfl, ?_⟩) hS ?_
  rotate_left
  · intro wx hx
    have s3 := run_sliceA wx x.heap.size (place + k) hp
    have s4 := run_sliceA wx w.heap.size (place + gone) hg
    rw [Int.natCast_add] at s3 s4
    go_simp
    try with_reducible rfl
  refine wpAnyH_take (i := 4) (v := ?_) rfl (by kernel_rfl) (by kernel_rfl) (by kernel_rfl) (fun _ _ _ h => h) (Or.inl ⟨by kernel_rfl, ?_⟩) hS ?_
  rotate_left
  · intro wx hx
    have s3 := run_sliceA wx x.heap.size (place + k) hp
    have s4 := run_sliceA wx w.heap.size (place + gone) hg
    rw [Int.natCast_add] at s3 s4
    go_simp
    try with_reducible rfl
  refine wpAnyH_take (i := 5) (v := ?_) rfl (by kernel_rfl) (by kernel_rfl) (by kernel_rfl) (fun _ _ _ h => h) (Or.inl ⟨by kernel_rfl, ?_⟩) hS ?_
  rotate_left
  · intro wx hx
    have s3 := run_sliceA wx x.heap.size (place + k) hp
    have s4 := run_sliceA wx w.heap.size (place + gone) hg
    rw [Int.natCast_add] at s3 s4
    go_simp
    try with_reducible rfl
  refine wpAnyH_ready (rs := [6]) (by kernel_rfl) (by simp) ?_
  refine AllReadyH.cons rfl (fun K hK => ?_) AllReadyH.nil
  have hb : Hid (off6 (place + k) + Nat.min (6 - (place + gone)) (6 - (place + k)) * 3 ≤ 18) := by
    unfold Hid off6
    have h1 : Nat.min (6 - (place + gone)) (6 - (place + k)) ≤ 6 - (place + k) := Nat.min_le_right _ _
    generalize Nat.min (6 - (place + gone)) (6 - (place + k)) = m at h1 ⊢
    split <;> omega
  refine step_copyA (by rfl) _ _ (by rfl) x.heap.size (off6 (place + k)) (6 - (place + k)) (6 - (place + k)) _ U2'.out 0 (6 - (place + gone)) _ (fun q => A ((place + gone) * 3 + q)) (some ⟨w.heap.size, off6 (place + gone), none⟩) (6 - (place + gone)) rfl (hS.1.1.tail (place + gone) hg _) (fun q => by cases q) hb.out (by rfl) (by rfl) ?_
  intro v V2 GV
  have SV : ReplS w w.heap.size (w.heap.size + 1) A v := ⟨⟨hS.1.1.kept (GV.block _ hS.1.1.lt (by simp [hne.1])), hS.1.2.kept (GV.block _ hS.1.2.lt (by simp [hne.2]))⟩, hS.2.grown GV hS.2.size (fun r e => by cases e; have := hxs.out; omega)⟩
  have V2' : v.heap[x.heap.size]? = some (.cells (arrV (replF A C place gone k)) 57) := V2
  refine hK.out _ _ SV (fun hS => ?_)
  clear hK K SV GV U2' V2
  refine wpAnyH_done (by kernel_rfl) ?_ _
  have V1' : v.heap[w.heap.size + 1]? = some (.cells (arrV (fun _ => 0)) 57) := hS.1.2
  have QV : Hid (Below w.heap.size w v) := hS.2
  clear hS
  go_simp
  go_wp2_with (first
    | refine wpList_load_row rfl 57 _ rfl x.heap.size rfl _ _ _ _ V2' Try.underlying57 rfl (by rw [arrV_size]; kernel_rfl) ?_
    | refine wpList_store_row rfl 57 _ _ rfl (w.heap.size + 1) (arrV (replF A C place gone k)) rfl rfl _ _ V1' (by rw [arrV_size]; kernel_rfl) (by rw [arrV_size, arrV_size]) (arrV_one _) ?_)
  exact bodyPost_ret (v := .agg (arrV (replF A C place gone k))) (results_cell_row Try.results37 _ _ (w.heap.size + 1) _ _ _ _ rfl (setRow_heap _ _ _ _ _ _ V1') Try.underlying57 rfl (by rw [arrV_size]; kernel_rfl)) rfl ⟨rfl, below_setRow QV.out (by omega) _⟩
end Go.Proofs.Ytabenplbibhbiaa
