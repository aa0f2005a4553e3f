/-
  Own text, merged of TxnL, FsE, TxnA, FsF, FsG, OpenF, FsB, FsH, FsI, FsJ.
-/
import Derived.Test.YtegfpgdipmfgfaaPk2
namespace Go.Proofs.Ytegfpgdipmfgfaa
open Go.RowKit

theorem OwnM.len {w : World} {B : Nat} {e : TypeId} {m n : Nat} {v : Value} {L : List Int} (h : OwnM w B e m v n L) : L.length = n * m := by
  have := h.1
  simpa using this
theorem OwnM.rowL {w : World} {B : Nat} {e : TypeId} {m n : Nat} {v : Value} {L : List Int} (h : OwnM w B e m v n L) : Row w B m n (fun p => L.getD p 0) v ∧ Free w (n * m) v := (h.own h.len).row
end Go.Proofs.Ytegfpgdipmfgfaa

namespace Go.Proofs.Ytegfpgdipmfgfaa
open Go.RowKit

/-- Block b holds five cells, none frozen: a plan. -/
def BlkP (x : World) (b : Nat) (a0 a1 a2 a3 a4 : Value) : Prop :=
  (x.cell? ⟨b, 0, none⟩ = some a0 ∧ x.cell? ⟨b, 1, none⟩ = some a1 ∧ x.cell? ⟨b, 2, none⟩ = some a2 ∧ x.cell? ⟨b, 3, none⟩ = some a3 ∧ x.cell? ⟨b, 4, none⟩ = some a4) ∧
    x.frozen? ⟨b, 0, none⟩ = false ∧ x.frozen? ⟨b, 1, none⟩ = false ∧ x.frozen? ⟨b, 2, none⟩ = false ∧ x.frozen? ⟨b, 3, none⟩ = false ∧ x.frozen? ⟨b, 4, none⟩ = false
theorem BlkP.kept {x x' : World} {b : Nat} {a0 a1 a2 a3 a4 : Value} (h : BlkP x b a0 a1 a2 a3 a4) (hb : x'.heap[b]? = x.heap[b]?) : BlkP x' b a0 a1 a2 a3 a4 := by
  obtain ⟨⟨h0, h1, h2, h3, h4⟩, f0, f1, f2, f3, f4⟩ := h
  exact ⟨⟨(World.cell?_of_block (w := x) (a := ⟨b, 0, none⟩) hb).trans h0, (World.cell?_of_block (w := x) (a := ⟨b, 1, none⟩) hb).trans h1, (World.cell?_of_block (w := x) (a := ⟨b, 2, none⟩) hb).trans h2, (World.cell?_of_block (w := x) (a := ⟨b, 3, none⟩) hb).trans h3, (World.cell?_of_block (w := x) (a := ⟨b, 4, none⟩) hb).trans h4⟩,
    (World.frozen?_of_block (w := x) (a := ⟨b, 0, none⟩) hb).trans f0, (World.frozen?_of_block (w := x) (a := ⟨b, 1, none⟩) hb).trans f1, (World.frozen?_of_block (w := x) (a := ⟨b, 2, none⟩) hb).trans f2, (World.frozen?_of_block (w := x) (a := ⟨b, 3, none⟩) hb).trans f3, (World.frozen?_of_block (w := x) (a := ⟨b, 4, none⟩) hb).trans f4⟩
theorem BlkP.lt {x : World} {b : Nat} {a0 a1 a2 a3 a4 : Value} (h : BlkP x b a0 a1 a2 a3 a4) : b < x.heap.size := World.block_lt_of_cell? x _ h.1.1
theorem BlkP.later {x x' : World} {b : Nat} {a0 a1 a2 a3 a4 : Value} (h : BlkP x b a0 a1 a2 a3 a4) (hb : Below x.heap.size x x') : BlkP x' b a0 a1 a2 a3 a4 := h.kept (hb.block b h.lt)
theorem BlkP.alloc {x : World} {b : Nat} {a0 a1 a2 a3 a4 : Value} (h : BlkP x b a0 a1 a2 a3 a4) (o : Obj) : BlkP (x.alloc o) b a0 a1 a2 a3 a4 := h.later ((Below.refl _ _).alloc (Nat.le_refl _) o)
theorem BlkP.new (w : World) (a0 a1 a2 a3 a4 : Value) (t : TypeId) : BlkP (w.alloc (.cells #[a0, a1, a2, a3, a4] t)) w.heap.size a0 a1 a2 a3 a4 := by
  refine ⟨⟨World.cell?_alloc_mark w _ _ _ 0, World.cell?_alloc_mark w _ _ _ 1, World.cell?_alloc_mark w _ _ _ 2, World.cell?_alloc_mark w _ _ _ 3, World.cell?_alloc_mark w _ _ _ 4⟩, ?_, ?_, ?_, ?_, ?_⟩ <;> simp
theorem run_items2 (a0 a1 a2 b0 b1 b2 : Int) (w : World) : (Instr.buildSlice 30 2 #[(0, .agg #[.int .i64 a0, .int .i64 a1, .int .i64 a2]), (1, .agg #[.int .i64 b0, .int .i64 b1, .int .i64 b2])]).run Try.prog w = .ok (.slice (some ⟨w.heap.size, 0, none⟩) 2 2) (w.alloc (.cells #[.int .i64 a0, .int .i64 a1, .int .i64 a2, .int .i64 b0, .int .i64 b1, .int .i64 b2] 39)) := by
  first | kernel_rfl | rfl
/-- A list literal lies in its own block. -/
theorem OwnM.lit (Y : World) (e : TypeId) (m n : Nat) (L : List Int) (cs : Array Value) (hcs : cs = (L.map (Value.int .i64)).toArray) (hl : L.length = n * m) (hn : n ≤ maxLen) : OwnM (Y.alloc (.cells cs e)) Y.heap.size e m (.slice (some ⟨Y.heap.size, 0, none⟩) n n) n L := by
  subst hcs
  have := World.ownsRow_lit (e := e) Y (L.map (Value.int .i64)).toArray n (Nat.le_refl _) hn (size := m) (by simp [hl])
  simpa [OwnM] using this
theorem OwnM.monoP {w : World} {B B' : Nat} {e : TypeId} {m n : Nat} {v : Value} {L : List Int} (h : OwnM w B e m v n L) (hB : B' ≤ B) : OwnM w B' e m v n L := World.ownsRow.mono h hB
set_option maxRecDepth 100000 in
theorem results_plan {fn : Func} {tmps : Array Value} {w : World} {t b : Nat} {a0 a1 a2 a3 a4 : Value} (hr : fn.results = #[.cell t 32]) (ht : tmps[t]?.getD undef = .pointer (some ⟨b, 0, none⟩)) (h : BlkP w b a0 a1 a2 a3 a4) : (results fn tmps).run Try.prog w = .ok (.agg #[a0, a1, a2, a3, a4]) w := by
  obtain ⟨⟨h0, h1, h2, h3, h4⟩, _⟩ := h
  simp [results, hr, ht, go_sem, h0, h1, h2, h3, h4]
/-- Block b is one that a plan lies in. -/
def PBk (x : World) (b : Nat) : Prop := ∃ old : Array Value, x.heap[b]? = some (.cells old 32 (0, 0)) ∧ old.size = 5
theorem PBk.lt {x : World} {b : Nat} (h : PBk x b) : b < x.heap.size := by
  obtain ⟨old, h, _⟩ := h
  exact (Array.getElem?_eq_some_iff.1 h).1
theorem PBk.kept {x x' : World} {b : Nat} (h : PBk x b) (hb : x'.heap[b]? = x.heap[b]?) : PBk x' b := by
  obtain ⟨old, h, hs⟩ := h
  exact ⟨old, hb.trans h, hs⟩
theorem PBk.later {x x' : World} {b : Nat} (h : PBk x b) (hb : Below x.heap.size x x') : PBk x' b := h.kept (hb.block b h.lt)
theorem PBk.alloc {x : World} {b : Nat} (h : PBk x b) (o : Obj) : PBk (x.alloc o) b := h.later (below_alloc _ _)
theorem PBk.new (w : World) (a0 a1 a2 a3 a4 : Value) : PBk (w.alloc (.cells #[a0, a1, a2, a3, a4] 32)) w.heap.size := ⟨_, heap_alloc_new w _, rfl⟩
theorem heap_setRow (x : World) (b : Nat) (cs : Array Value) (k : Nat) (hk : k ≠ b) : (x.setRow b cs).heap[k]? = x.heap[k]? := by simp [World.setRow, Array.getElem?_modify]; omega
theorem below_row {B : Nat} {w z : World} (h : Below B w z) {g : Nat} (hg : B ≤ g) (cs : Array Value) : Below B w (z.setRow g cs) :=
  ⟨h.os, h.tape, h.output, by simpa [World.setRow] using h.size, fun k hk => (heap_setRow z g cs k (by omega)).trans (h.block k hk)⟩
theorem wpList_storeP {ops : Array Oper} {rest : List Oper} {o : Oper} {a : Act} {w : World} {Q : Exit → Act → World → Prop} (hgd : o.guard = none) (x y : Operand) (ho : o.op = .store 32 x y)
    (g : Nat) (a0 a1 a2 a3 a4 : Value) (hx : a.eval x = .pointer (some ⟨g, 0, none⟩)) (hy : a.eval y = .agg #[a0, a1, a2, a3, a4]) (hP : PBk w g) (h1 : (#[a0, a1, a2, a3, a4] : Array Value).all (·.oneCell') = true)
    (h : wpList Try.prog ops Q rest (a.put o.dst undef) (w.setRow g #[a0, a1, a2, a3, a4])) : wpList Try.prog ops Q (o :: rest) a w := by
  obtain ⟨old, hg, hs⟩ := hP
  exact wpList_store_row hgd 32 x y ho g #[a0, a1, a2, a3, a4] hx hy 32 old hg (by kernel_rfl) hs h1 h
theorem results_pl {fn : Func} {p : Tmp} (h : fn.results = #[.cell p 32]) (tmps : Array Value) (w : World) (g : Nat) (a0 a1 a2 a3 a4 : Value) (hp : tmps.getD p undef = .pointer (some ⟨g, 0, none⟩)) (hP : PBk w g) : (results fn tmps).run Try.prog (w.setRow g #[a0, a1, a2, a3, a4]) = .ok (.agg #[a0, a1, a2, a3, a4]) (w.setRow g #[a0, a1, a2, a3, a4]) := by
  obtain ⟨old, hg, _⟩ := hP
  exact results_cell_row h tmps _ g 32 #[a0, a1, a2, a3, a4] (0, 0) _ hp (by simp [World.setRow, Array.getElem?_modify, hg]) Try.underlying32 rfl (by kernel_rfl)
/-- What a call answers that tells a plan: its numbers, its reads, its writes. -/
def ResPlan (w : World) (c r v : Int) (xs : List Int) (m : Nat) (L : List Int) (e : Ending) (w' : World) : Prop :=
  ∃ vr vw, e = .returned (.agg #[.int .i64 c, .int .i64 r, .int .i64 v, vr, vw]) ∧ (Ints w' w.heap.size vr xs ∧ OwnM w' w.heap.size 39 3 vw m L ∧ ∀ k, vr.ownBlock = some k → vw.ownBlock ≠ some k) ∧ Below w.heap.size w w'
set_option maxHeartbeats 400000 in
theorem putTo_is (k v : Int) (w : World) : Calls Try.prog 49 #[.int .i64 k, .int .i64 v] w fun e w' => e = .returned (.agg #[.int .i64 k, .int .i64 1, .int .i64 v]) ∧ Below w.heap.size w w' := by
  go_enter Try.func49, Try.ntmps49
  go_wp2
  refine bodyPost_ret (v := .agg #[.int .i64 k, .int .i64 1, .int .i64 v]) (by simp [results, Try.results49, go_sem]) rfl ⟨rfl, ?_⟩
  repeat (first | exact Below.refl _ _ | refine Below.setCell ?_ (by first | omega | (simp <;> omega)) _ | refine Below.alloc ?_ (by first | omega | (simp <;> omega)) _)
/-- What EmptyFs answers. -/
def EmpAns (x c : Int) (m : Nat) (L : List Int) : Prop := (¬ (1 ≤ x ∧ x ≤ 10) ∧ c = 3 ∧ m = 0 ∧ L = []) ∨ ((1 ≤ x ∧ x ≤ 10) ∧ c = 0 ∧ m = 2 ∧ L = [0, 1, x, 10, 1, 1000])
theorem EmpAns.get (x : Int) : ∃ c m L, EmpAns x c m L := by
  by_cases h : 1 ≤ x ∧ x ≤ 10
  · exact ⟨_, _, _, Or.inr ⟨h, rfl, rfl, rfl⟩⟩
  · exact ⟨_, _, _, Or.inl ⟨h, rfl, rfl, rfl⟩⟩
set_option maxRecDepth 100000 in
set_option maxHeartbeats 2000000 in
theorem specEmpty_is (x c : Int) (m : Nat) (L : List Int) (w : World) (ha : EmpAns x c m L) : Calls Try.prog 18 #[.int .i64 x] w (ResPlan w c 0 0 [] m L) := by
  have hit := fun a0 a1 a2 b0 b1 b2 w => run_items2 a0 a1 a2 b0 b1 b2 w
  rcases ha with ⟨h1, rfl, rfl, rfl⟩ | ⟨h1, rfl, rfl, rfl⟩
  · have D : Hid (decide (1 ≤ x ∧ x ≤ 10) = false) := decide_eq_false h1
    clear h1
    go_enter Try.func18, Try.ntmps18
    go_wp2_with fail
    refine (inT_is _ _ _ _ D.out _).mono ?_
    rintro e w9 ⟨rfl, hw9⟩
    obtain rfl := hw9.symm
    go_wp2
    refine bodyPost_ret (v := .agg #[.int .i64 3, .int .i64 0, .int .i64 0, .slice none 0 0, .slice none 0 0]) (results_plan Try.results18 rfl (BlkP.new _ _ _ _ _ _ _)) rfl ⟨_, _, rfl, ⟨Ints.nil _ _, ?_, fun k hk => by cases hk⟩, ?_⟩
    · exact OwnM.nil _ _ _ _
    repeat (first | exact Below.refl _ _ | refine Below.setCell ?_ (by first | omega | (simp <;> omega)) _ | refine Below.alloc ?_ (by first | omega | (simp <;> omega)) _)
  · have D : Hid (decide (1 ≤ x ∧ x ≤ 10) = true) := decide_eq_true h1
    clear h1
    go_enter Try.func18, Try.ntmps18
    go_wp2_with fail
    refine (inT_is _ _ _ _ D.out _).mono ?_
    rintro e w9 ⟨rfl, hw9⟩
    obtain rfl := hw9.symm
    go_wp2
    refine bodyPost_ret (v := .agg #[.int .i64 0, .int .i64 0, .int .i64 0, .slice none 0 0, .slice (some ⟨w.heap.size + 1, 0, none⟩) 2 2]) (results_plan Try.results18 rfl (BlkP.alloc (BlkP.new _ _ _ _ _ _ _) _)) rfl ⟨_, _, rfl, ⟨Ints.nil _ _, ?_, fun k hk => by cases hk⟩, ?_⟩
    · have hl := OwnM.lit (w.alloc (.cells #[.int .i64 0, .int .i64 0, .int .i64 0, .slice none 0 0, .slice (some ⟨w.heap.size + 1, 0, none⟩) 2 2] 32)) 39 3 2 [0, 1, x, 10, 1, 1000] #[.int .i64 0, .int .i64 1, .int .i64 x, .int .i64 10, .int .i64 1, .int .i64 1000] (by simp) rfl (by unfold maxLen; omega)
      rw [World.size_alloc] at hl
      exact OwnM.monoP hl (Nat.le_succ _)
    repeat (first | exact Below.refl _ _ | refine Below.setCell ?_ (by first | omega | (simp <;> omega)) _ | refine Below.alloc ?_ (by first | omega | (simp <;> omega)) _)
set_option maxRecDepth 100000 in
set_option maxHeartbeats 2000000 in
theorem implEmpty_is (x c : Int) (m : Nat) (L : List Int) (w : World) (ha : EmpAns x c m L) : Calls Try.prog 19 #[.int .i64 x] w (ResPlan w c 0 0 [] m L) := by
  rcases ha with ⟨h1, rfl, rfl, rfl⟩ | ⟨h1, rfl, rfl, rfl⟩
  · by_cases h2 : x < 1
    rotate_left
    focus
      have d1 : decide (x < 1) = false := decide_eq_false h2
      have d2 : decide (10 < x) = true := decide_eq_true (by omega)
      clear h1 h2
    rotate_left
    all_goals
      go_enter Try.func19, Try.ntmps19
      go_wp2
      refine bodyPost_ret (v := .agg #[.int .i64 3, .int .i64 0, .int .i64 0, .slice none 0 0, .slice none 0 0]) (results_plan Try.results19 rfl (BlkP.new _ _ _ _ _ _ _)) rfl ⟨_, _, rfl, ⟨Ints.nil _ _, ?_, fun k hk => by cases hk⟩, ?_⟩
      · exact OwnM.nil _ _ _ _
      repeat (first | exact Below.refl _ _ | refine Below.setCell ?_ (by first | omega | (simp <;> omega)) _ | refine Below.alloc ?_ (by first | omega | (simp <;> omega)) _)
  · have d1 : decide (x < 1) = false := decide_eq_false (by omega)
    have d2 : decide (10 < x) = false := decide_eq_false (by omega)
    have HZ : Hid (PBk (w.alloc (.cells #[.int .i64 0, .int .i64 0, .int .i64 0, .slice none 0 0, .slice none 0 0] 32)) w.heap.size) := PBk.new w _ _ _ _ _
    have HL : Hid (Below w.heap.size w (w.alloc (.cells #[.int .i64 0, .int .i64 0, .int .i64 0, .slice none 0 0, .slice none 0 0] 32))) := below_alloc _ _
    have hit := fun a0 a1 a2 b0 b1 b2 w => run_items2 a0 a1 a2 b0 b1 b2 w
    clear h1
    go_enter Try.func19, Try.ntmps19
    go_wp2_with fail
    refine (nextKey_is _).mono ?_
    rintro e w1 ⟨rfl, q1⟩
    have H1 : Hid (PBk w1 w.heap.size ∧ Below w.heap.size w w1) := ⟨HZ.out.later q1, HL.out.trans (q1.mono (by simp))⟩
    clear q1 HZ HL
    go_wp2_with fail
    refine (putTo_is 0 x _).mono ?_
    rintro e w2 ⟨rfl, q1⟩
    have H2 : Hid (PBk w2 w.heap.size ∧ Below w.heap.size w w2) := ⟨H1.out.1.later q1, H1.out.2.trans (q1.mono H1.out.2.size)⟩
    clear q1 H1
    go_wp2_with fail
    refine (inodeKey_is 0 (by omega) _).mono ?_
    rintro e w3 ⟨rfl, q1⟩
    have H3 : Hid (PBk w3 w.heap.size ∧ Below w.heap.size w w3) := ⟨H2.out.1.later q1, H2.out.2.trans (q1.mono H2.out.2.size)⟩
    clear q1 H2
    go_wp2_with fail
    refine (putTo_is 10 1000 _).mono ?_
    rintro e w4 ⟨rfl, q1⟩
    have H4 : Hid (PBk w4 w.heap.size ∧ Below w.heap.size w w4) := ⟨H3.out.1.later q1, H3.out.2.trans (q1.mono H3.out.2.size)⟩
    clear q1 H3
    have HP : Hid (PBk (w4.alloc (.cells #[.int .i64 0, .int .i64 1, .int .i64 x, .int .i64 10, .int .i64 1, .int .i64 1000] 39)) w.heap.size) := H4.out.1.alloc _
    have HI : Hid (OwnM _ _ _ _ _ _ _) := OwnM.lit w4 39 3 2 [0, 1, x, 10, 1, 1000] #[.int .i64 0, .int .i64 1, .int .i64 x, .int .i64 10, .int .i64 1, .int .i64 1000] (by simp) rfl (by unfold maxLen; omega)
    go_wp2_with (refine wpList_storeP rfl _ _ rfl w.heap.size _ _ _ _ _ rfl rfl HP.out (by kernel_rfl) ?_)
    refine bodyPost_ret (v := .agg #[.int .i64 0, .int .i64 0, .int .i64 0, .slice none 0 0, .slice (some ⟨w4.heap.size, 0, none⟩) 2 2]) (results_pl Try.results19 _ _ _ _ _ _ _ _ rfl HP.out) rfl ⟨_, _, rfl, ⟨Ints.nil _ _, ?_, fun k hk => by cases hk⟩, ?_⟩
    · exact OwnM.monoP (OwnM.kept HI.out fun g hg _ => heap_setRow _ _ _ _ (by have := H4.out.1.lt; omega)) (Nat.le_of_lt H4.out.1.lt)
    · exact below_row (H4.out.2.alloc H4.out.2.size _) (Nat.le_refl _) _
end Go.Proofs.Ytegfpgdipmfgfaa

namespace Go.Proofs.Ytegfpgdipmfgfaa
open Go.RowKit

set_option maxHeartbeats 400000 in
theorem eqItem_same (x0 x1 x2 : Int) (w : World) :
    Calls Try.prog 80 #[.agg #[.int .i64 x0, .int .i64 x1, .int .i64 x2], .agg #[.int .i64 x0, .int .i64 x1, .int .i64 x2]] w fun e w' => e = .returned (.bool true) ∧ Below w.heap.size w w' := by
  go_enter Try.func80, Try.ntmps80
  go_wp2
  go_ret
  exact ⟨rfl, ((Below.refl _ _).alloc (Nat.le_refl _) _).alloc (by simp) _⟩
def TwoItem (w : World) (g o g' o' k : Nat) (F : Nat → Int) (x : World) : Prop := (x.cell? ⟨g, o + k * 3, none⟩ = some (.int .i64 (F (k * 3))) ∧ x.cell? ⟨g, o + k * 3 + 1, none⟩ = some (.int .i64 (F (k * 3 + 1))) ∧ x.cell? ⟨g, o + k * 3 + 2, none⟩ = some (.int .i64 (F (k * 3 + 2))) ∧ x.cell? ⟨g', o' + k * 3, none⟩ = some (.int .i64 (F (k * 3))) ∧ x.cell? ⟨g', o' + k * 3 + 1, none⟩ = some (.int .i64 (F (k * 3 + 1))) ∧ x.cell? ⟨g', o' + k * 3 + 2, none⟩ = some (.int .i64 (F (k * 3 + 2)))) ∧ Below w.heap.size w x
theorem TwoItem.later {w x x' : World} {g o g' o' k : Nat} {F : Nat → Int} (h : TwoItem w g o g' o' k F x) (hg : g < w.heap.size) (hg' : g' < w.heap.size) (hb : Below x.heap.size x x') : TwoItem w g o g' o' k F x' := by
  obtain ⟨⟨hx0, hx1, hx2, hx3, hx4, hx5⟩, hy⟩ := h
  exact ⟨⟨(hb.cell (Nat.lt_of_lt_of_le hg hy.size)).trans hx0, (hb.cell (Nat.lt_of_lt_of_le hg hy.size)).trans hx1, (hb.cell (Nat.lt_of_lt_of_le hg hy.size)).trans hx2, (hb.cell (Nat.lt_of_lt_of_le hg' hy.size)).trans hx3, (hb.cell (Nat.lt_of_lt_of_le hg' hy.size)).trans hx4, (hb.cell (Nat.lt_of_lt_of_le hg' hy.size)).trans hx5⟩, hy.trans (hb.mono hy.size)⟩
set_option maxRecDepth 100000 in
set_option maxHeartbeats 1000000 in
theorem eqItemS_same (va vb : Value) (Ba Bb n : Nat) (F : Nat → Int) (w : World) (ha : Row w Ba 3 n F va) (hb : Row w Bb 3 n F vb) (hn : n ≤ 1048576) :
    Calls Try.prog 53 #[va, vb] w fun e w' => e = .returned (.bool true) ∧ Below w.heap.size w w' := by
  obtain ⟨ao, ca, rfl⟩ := ha.form
  obtain ⟨bo, cb, rfl⟩ := hb.form
  have HA : Hid (Row w Ba 3 n F (.slice ao n ca)) := ha
  have HB : Hid (Row w Bb 3 n F (.slice bo n cb)) := hb
  clear ha hb
  go_enter Try.func53, Try.ntmps53
  go_wp2
  go_loopw [5] (fun i wr => ∃ k : Nat, k ≤ n ∧ i = .int .i64 k ∧ Below w.heap.size w wr) (fun i _ => n - (intOf i).toNat)
  case atStart => exact ⟨0, Nat.zero_le _, rfl, Below.refl _ _⟩
  case round =>
    obtain ⟨k, hk, rfl, hbw⟩ := hrel
    by_cases hlt : k < n
    · obtain ⟨g, o, rfl, _, hg, c0, c1, c2⟩ := HA.out.at3 hlt
      obtain ⟨g', o', rfl, _, hg', d0, d1, d2⟩ := HB.out.at3 hlt
      have h0 : TwoItem w g o g' o' k F wr.drew := ⟨⟨(hbw.cell (p := ⟨g, o + k * 3, none⟩) hg).trans c0, (hbw.cell (p := ⟨g, o + k * 3 + 1, none⟩) hg).trans c1, (hbw.cell (p := ⟨g, o + k * 3 + 2, none⟩) hg).trans c2, (hbw.cell (p := ⟨g', o' + k * 3, none⟩) hg').trans d0, (hbw.cell (p := ⟨g', o' + k * 3 + 1, none⟩) hg').trans d1, (hbw.cell (p := ⟨g', o' + k * 3 + 2, none⟩) hg').trans d2⟩, hbw.drew⟩
      clear c0 d0 c1 d1 c2 d2 hbw
      go_wp2_with fail
      refine wp_region_held_drew (S := TwoItem w g o g' o' k F) (by kernel_rfl) h0 (fun hS => ?_)
      clear h0
      refine tkH 0 ?_ hS (fun wx hx => ?_) ?_; rotate_left
      · obtain ⟨⟨hx0, hx1, hx2, hx3, hx4, hx5⟩, _⟩ := hx; go_simp; try with_reducible rfl
      refine tkH 1 ?_ hS (fun wx hx => ?_) ?_; rotate_left
      · obtain ⟨⟨hx0, hx1, hx2, hx3, hx4, hx5⟩, _⟩ := hx; go_simp; try with_reducible rfl
      refine tkH 2 ?_ hS (fun wx hx => ?_) ?_; rotate_left
      · obtain ⟨⟨hx0, hx1, hx2, hx3, hx4, hx5⟩, _⟩ := hx; go_simp; try with_reducible rfl
      refine tkH 3 ?_ hS (fun wx hx => ?_) ?_; rotate_left
      · obtain ⟨⟨hx0, hx1, hx2, hx3, hx4, hx5⟩, _⟩ := hx; go_simp; try with_reducible rfl
      refine tkH 4 ?_ hS (fun wx hx => ?_) ?_; rotate_left
      · obtain ⟨⟨hx0, hx1, hx2, hx3, hx4, hx5⟩, _⟩ := hx; go_simp; try with_reducible rfl
      refine tkH 5 ?_ hS (fun wx hx => ?_) ?_; rotate_left
      · obtain ⟨⟨hx0, hx1, hx2, hx3, hx4, hx5⟩, _⟩ := hx; go_simp; try with_reducible rfl
      refine tkH 6 ?_ hS (fun wx hx => ?_) ?_; rotate_left
      · obtain ⟨⟨hx0, hx1, hx2, hx3, hx4, hx5⟩, _⟩ := hx; go_simp; try with_reducible rfl
      refine tkH 7 ?_ hS (fun wx hx => ?_) ?_; rotate_left
      · obtain ⟨⟨hx0, hx1, hx2, hx3, hx4, hx5⟩, _⟩ := hx; go_simp; try with_reducible rfl
      refine rdH 8 (fun K hK => ?_)
      go_simp
      go_wp2_with fail
      refine (eqItem_same _ _ _ _).mono ?_
      rintro e w' ⟨rfl, hb⟩
      go_wp2_with fail
      refine hK.out _ _ (hS.later hg hg' hb) (fun hS => ?_)
      clear hK K
      refine tkH 9 ?_ hS (fun wx hx => ?_) ?_; rotate_left
      · obtain ⟨⟨hx0, hx1, hx2, hx3, hx4, hx5⟩, _⟩ := hx; go_simp; try with_reducible rfl
      refine wpAnyH_done (by kernel_rfl) ?_ _
      go_simp
      go_wp2
      go_roundw
      case rel => exact ⟨k + 1, by omega, by go_num, hS.2⟩
      case measure => simp [intOf]; omega
    · go_wp2
      go_ret
      exact ⟨rfl, hbw⟩
end Go.Proofs.Ytegfpgdipmfgfaa

namespace Go.Proofs.Ytegfpgdipmfgfaa
open Go.RowKit

/-- The lists of a plan lie in memory from B on, apart. -/
def PlanAt (w : World) (B : Nat) (xs : List Int) (m : Nat) (L : List Int) (vr vw : Value) : Prop := Ints w B vr xs ∧ OwnM w B 39 3 vw m L ∧ ∀ k, vr.ownBlock = some k → vw.ownBlock ≠ some k
theorem PlanAt.later {w w' : World} {B : Nat} {xs : List Int} {m : Nat} {L : List Int} {vr vw : Value} (h : PlanAt w B xs m L vr vw) (hb : Below w.heap.size w w') : PlanAt w' B xs m L vr vw := ⟨h.1.later hb, OwnM.later h.2.1 hb, h.2.2⟩
theorem PlanAt.alloc {w : World} {B : Nat} {xs : List Int} {m : Nat} {L : List Int} {vr vw : Value} (h : PlanAt w B xs m L vr vw) (o : Obj) : PlanAt (w.alloc o) B xs m L vr vw := h.later (below_alloc _ _)
/-- Blocks below b stay. -/
theorem PlanAt.low {w w' : World} {B b : Nat} {xs : List Int} {m : Nat} {L : List Int} {vr vw : Value} (h : PlanAt w B xs m L vr vw) (hb : Below b w w') (h1 : ∀ k, vr.ownBlock = some k → k < b) (h2 : ∀ k, vw.ownBlock = some k → k < b) : PlanAt w' B xs m L vr vw := by
  refine ⟨?_, OwnM.keptB h.2.1 fun k hk => hb.block k (h2 k hk), h.2.2⟩
  have hi : OwnM w B 2 1 vr xs.length xs := h.1
  exact OwnM.keptB hi fun k hk => hb.block k (h1 k hk)
theorem PlanAt.lt {w : World} {B : Nat} {xs : List Int} {m : Nat} {L : List Int} {vr vw : Value} (h : PlanAt w B xs m L vr vw) : (∀ k, vr.ownBlock = some k → k < w.heap.size) ∧ (∀ k, vw.ownBlock = some k → k < w.heap.size) := ⟨fun k hk => (h.1.lt k hk).2, fun k hk => (OwnM.block h.2.1 k hk).2⟩
theorem PlanAt.form {w : World} {B : Nat} {xs : List Int} {m : Nat} {L : List Int} {vr vw : Value} (h : PlanAt w B xs m L vr vw) : (∃ ao cp, vr = .slice ao xs.length cp) ∧ ∃ bo cq, vw = .slice bo m cq := ⟨h.1.form, OwnM.form h.2.1⟩
theorem PlanAt.rows {w : World} {B : Nat} {xs : List Int} {m : Nat} {L : List Int} {vr vw : Value} (h : PlanAt w B xs m L vr vw) : Row w B 3 m (fun p => L.getD p 0) vw ∧ Free w (m * 3) vw := OwnM.rowL h.2.1
theorem below_grP {w w' : World} {B : Nat} {v : Value} (hg : w.grownBy w' v.ownBlock) (hB : ∀ k, v.ownBlock = some k → B ≤ k) (hw : B ≤ w.heap.size) : Below B w w' :=
  ⟨hg.os, hg.tape, hg.output, hg.size, fun i hi => hg.block i (by omega) (fun e => by have := hB i e.symm; omega)⟩
theorem eqIntsB (va vb : Value) (Ba Bb : Nat) (xs : List Int) (w : World) (ha : Ints w Ba va xs) (hb : Ints w Bb vb xs) (hl : xs.length ≤ 1000) :
    Calls Try.prog 52 #[va, vb] w fun e w' => e = .returned (.bool true) ∧ Below w.heap.size w w' :=
  (eqInts_any va vb Ba Bb xs w ha hb hl).mono fun e w' ⟨h, n, hw⟩ => ⟨h, by rw [hw]; exact below_dt (Below.refl _ _) n⟩
set_option maxHeartbeats 1000000 in
theorem eqPlan_same (c r v : Int) (xs : List Int) (m : Nat) (L : List Int) (va vb ua ub : Value) (Ba Bb : Nat) (w : World) (ha : PlanAt w Ba xs m L va ua) (hb : PlanAt w Bb xs m L vb ub) (hx : xs.length ≤ 1000) (hm : m ≤ 1000) :
    Calls Try.prog 20 #[.agg #[.int .i64 c, .int .i64 r, .int .i64 v, va, ua], .agg #[.int .i64 c, .int .i64 r, .int .i64 v, vb, ub]] w fun e w' => e = .returned (.bool true) ∧ Below w.heap.size w w' := by
  have HA : Hid (PlanAt w Ba xs m L va ua ∧ PlanAt w Bb xs m L vb ub) := ⟨ha, hb⟩
  obtain ⟨⟨a1, a2, rfl⟩, ⟨a3, a4, rfl⟩⟩ := ha.form
  obtain ⟨⟨b1, b2, rfl⟩, ⟨b3, b4, rfl⟩⟩ := hb.form
  clear ha hb
  have HP := BlkP.alloc (BlkP.new w (.int .i64 c) (.int .i64 r) (.int .i64 v) (.slice a1 xs.length a2) (.slice a3 m a4) 32) (.cells #[.int .i64 c, .int .i64 r, .int .i64 v, .slice b1 xs.length b2, .slice b3 m b4] 32)
  have HQ := BlkP.new (w.alloc (.cells #[.int .i64 c, .int .i64 r, .int .i64 v, .slice a1 xs.length a2, .slice a3 m a4] 32)) (.int .i64 c) (.int .i64 r) (.int .i64 v) (.slice b1 xs.length b2) (.slice b3 m b4) 32
  rw [World.size_alloc] at HQ
  have HPQ : Hid (_ ∧ _) := And.intro HP HQ
  clear HP HQ
  go_enter Try.func20, Try.ntmps20
  go_wp2_with fail
  refine (eqIntsB _ _ Ba Bb xs _ ((HA.out.1.alloc _).alloc _).1 ((HA.out.2.alloc _).alloc _).1 hx).mono ?_
  rintro e w2 ⟨rfl, q1⟩
  have H1 : Hid (_ ∧ _ ∧ _) := And.intro (HPQ.out.1.later q1) (And.intro (HPQ.out.2.later q1) (And.intro q1 (And.intro (((HA.out.1.alloc _).alloc _).later q1) (((HA.out.2.alloc _).alloc _).later q1))))
  clear q1 HPQ
  obtain ⟨⟨p0, p1, p2, p3, p4⟩, _⟩ := H1.out.1
  obtain ⟨⟨q0, q1, q2, q3, q4⟩, _⟩ := H1.out.2.1
  have hs : Hid (Below w.heap.size w w2) := ((below_alloc w _).alloc (by simp) _).trans (H1.out.2.2.1.mono (by simp; omega))
  go_wp2_with fail
  refine (eqItemS_same _ _ Ba Bb m _ _ H1.out.2.2.2.1.rows.1 H1.out.2.2.2.2.rows.1 (by omega)).mono ?_
  rintro e w3 ⟨rfl, q3'⟩
  have HE : Hid (Below w.heap.size w w3) := hs.out.trans (q3'.mono hs.out.size)
  clear q3'
  go_wp2
  go_ret
  exact ⟨rfl, HE.out⟩
/-- Numbered from 1 on: the reads, then the writes. -/
def Numb (w : World) (B nr m : Nat) (vr vw : Value) : Prop := Ints w B vr (up 1 nr) ∧ Row w B 3 m (fun p => (1 + (nr : Int)) + (p : Nat)) vw
theorem Numb.later {w w' : World} {B nr m : Nat} {vr vw : Value} (h : Numb w B nr m vr vw) (hb : Below w.heap.size w w') : Numb w' B nr m vr vw := ⟨h.1.later hb, h.2.later hb⟩
set_option maxRecDepth 100000 in
set_option maxHeartbeats 1000000 in
theorem markPlan_any (c r v : Int) (xs : List Int) (m : Nat) (L : List Int) (vr vw : Value) (B : Nat) (w : World) (h : PlanAt w B xs m L vr vw) (hx : xs.length ≤ 1000) (hm : m ≤ 1000) (hB : B ≤ w.heap.size) :
    Calls Try.prog 21 #[.agg #[.int .i64 c, .int .i64 r, .int .i64 v, vr, vw], .int .i64 1] w fun e w' => e = .returned (.int .i64 (1 + xs.length + m * 3)) ∧ Numb w' B xs.length m vr vw ∧ Below B w w' ∧ ∀ k, k < w.heap.size → vr.ownBlock ≠ some k → vw.ownBlock ≠ some k → w'.heap[k]? = w.heap[k]? := by
  obtain ⟨⟨a1, a2, rfl⟩, ⟨a3, a4, rfl⟩⟩ := h.form
  have HA : Hid (PlanAt (w.alloc (.cells #[.int .i64 c, .int .i64 r, .int .i64 v, .slice a1 xs.length a2, .slice a3 m a4] 32)) B xs m L (.slice a1 xs.length a2) (.slice a3 m a4)) := h.alloc _
  have HLT : Hid (∀ k, (Value.slice a1 xs.length a2).ownBlock = some k → k < w.heap.size) := h.lt.1
  have HLW : Hid (∀ k, (Value.slice a3 m a4).ownBlock = some k → k < w.heap.size) := h.lt.2
  have HP : Hid (BlkP (w.alloc (.cells #[.int .i64 c, .int .i64 r, .int .i64 v, .slice a1 xs.length a2, .slice a3 m a4] 32)) w.heap.size (.int .i64 c) (.int .i64 r) (.int .i64 v) (.slice a1 xs.length a2) (.slice a3 m a4)) := BlkP.new _ _ _ _ _ _ _
  clear h
  go_enter Try.func21, Try.ntmps21
  go_wp2_with fail
  refine (markInts_any _ B xs 1 _ HA.out.1 hx (by omega) (by omega)).mono ?_
  rintro e w1 ⟨rfl, i1, g1⟩
  obtain ⟨⟨p0, p1, p2, p3, p4⟩, _⟩ := HP.out.kept (g1.block _ HP.out.lt (fun e => by have := HLT.out _ e.symm; omega))
  have H1 : Hid (Ints w1 B (.slice a1 xs.length a2) (up 1 xs.length) ∧ OwnM w1 B 39 3 (.slice a3 m a4) m L) := ⟨i1, OwnM.keptB HA.out.2.1 fun k hk => g1.block k (OwnM.block HA.out.2.1 k hk).2 (fun e => HA.out.2.2 k e.symm hk)⟩
  have HB : Hid (Below B w w1 ∧ w.heap.size < w1.heap.size) := ⟨((below_alloc w _).mono hB).trans (below_grP g1 (fun k hk => (HA.out.1.lt k hk).1) (by simp; omega)), Nat.lt_of_lt_of_le (by simp) g1.size⟩
  have HK : Hid (∀ k, k < w.heap.size → (Value.slice a1 xs.length a2).ownBlock ≠ some k → w1.heap[k]? = w.heap[k]?) := fun k hk hn => (g1.block k (by simp; omega) (fun e => hn e.symm)).trans (Below.heap_alloc w _ k hk)
  clear i1 g1 HP
  go_wp2_with fail
  refine (markItemS_any _ B m _ (1 + xs.length) _ (OwnM.rowL H1.out.2).1 (OwnM.rowL H1.out.2).2 (by omega) (by omega) (by omega)).mono ?_
  rintro e w2 ⟨rfl, r2, _, g2⟩
  have H2 : Hid (Numb w2 B xs.length m (.slice a1 xs.length a2) (.slice a3 m a4)) := ⟨H1.out.1.grown g2 (fun k hk e => HA.out.2.2 k hk e), r2⟩
  have HB2 : Hid (Below B w w2) := HB.out.1.trans (below_grP g2 (fun k hk => (OwnM.block H1.out.2 k hk).1) (Nat.le_trans hB (Nat.le_of_lt HB.out.2)))
  have HK2 : Hid (∀ k, k < w.heap.size → (Value.slice a1 xs.length a2).ownBlock ≠ some k → (Value.slice a3 m a4).ownBlock ≠ some k → w2.heap[k]? = w.heap[k]?) := fun k hk h1 h2 => (g2.block k (Nat.lt_trans hk HB.out.2) (fun e => h2 e.symm)).trans (HK.out k hk h1)
  clear r2 g2 H1 HK
  go_wp2
  go_ret
  exact ⟨rfl, H2.out, HB2.out, HK2.out⟩
set_option maxRecDepth 100000 in
set_option maxHeartbeats 1000000 in
theorem heldPlan_any (c r v : Int) (nr m : Nat) (vr vw : Value) (B : Nat) (w : World) (h : Numb w B nr m vr vw) (hx : nr ≤ 1000) (hm : m ≤ 1000) :
    Calls Try.prog 22 #[.agg #[.int .i64 c, .int .i64 r, .int .i64 v, vr, vw], .int .i64 1] w fun e w' => e = .returned (.int .i64 (1 + nr + m * 3)) ∧ Below w.heap.size w w' := by
  obtain ⟨a1, a2, ev⟩ := h.1.form
  rw [up_length] at ev
  subst ev
  obtain ⟨a3, a4, rfl⟩ := h.2.form
  have HA : Hid (Numb w B nr m (.slice a1 nr a2) (.slice a3 m a4)) := h
  clear h
  have d1 : decide ((1 : Int) + nr < 0) = false := decide_eq_false (by omega)
  have d2 : decide ((1 : Int) + nr + m * 3 < 0) = false := decide_eq_false (by omega)
  go_enter Try.func22, Try.ntmps22
  go_wp2_with fail
  refine (heldInts_any _ B nr 1 _ (HA.out.1.alloc _) hx (by omega) (by omega)).mono ?_
  rintro e w1 ⟨rfl, rfl⟩
  go_wp2_with fail
  refine (heldItemS_any _ B m (1 + nr) _ (HA.out.2.alloc _) (by omega) (by omega) (by omega)).mono ?_
  rintro e w2 ⟨rfl, rfl⟩
  go_wp2
  go_ret
  exact ⟨rfl, below_alloc _ _⟩
end Go.Proofs.Ytegfpgdipmfgfaa

namespace Go.Proofs.Ytegfpgdipmfgfaa
open Go.RowKit

/-- A box that holds a plan. -/
abbrev planO (c r v : Int) (vr vw : Value) : Obj := .cells #[.int .i64 c, .int .i64 r, .int .i64 v, vr, vw] 32
abbrev planB (x : World) (b : Nat) (c r v : Int) (vr vw : Value) : Prop := BlkP x b (.int .i64 c) (.int .i64 r) (.int .i64 v) vr vw
set_option maxRecDepth 100000 in
set_option maxHeartbeats 4000000 in
theorem emptyFs_walk (x : Int) (w : World) (_ : (Lit.int .i64 x).wf = true) :
    Calls Try.prog 5 #[.int .i64 x] w fun e w' => e = .returned (.bool true) ∧ Below w.heap.size w w' := by
  obtain ⟨c, r, v, xs, m, L, hs, hi, hx, hm⟩ : ∃ c r v xs m L, (∀ w, Calls Try.prog 18 #[.int .i64 x] w (ResPlan w c r v xs m L)) ∧ (∀ w, Calls Try.prog 19 #[.int .i64 x] w (ResPlan w c r v xs m L)) ∧ xs.length ≤ 1000 ∧ m ≤ 1000 := by
    obtain ⟨c, m, L, ha⟩ := EmpAns.get x
    exact ⟨c, 0, 0, [], m, L, fun w => specEmpty_is x c m L w ha, fun w => implEmpty_is x c m L w ha, Nat.zero_le _, by rcases ha with ⟨_, _, rfl, _⟩ | ⟨_, _, rfl, _⟩ <;> omega⟩
  have HS : Hid (∀ w, Calls Try.prog 18 #[.int .i64 x] w (ResPlan w c r v xs m L)) := hs
  have HI : Hid (∀ w, Calls Try.prog 19 #[.int .i64 x] w (ResPlan w c r v xs m L)) := hi
  have hnn : decide ((1 : Int) + xs.length + m * 3 < 0) = false := decide_eq_false (by omega)
  clear hs hi
  go_enter Try.func5, Try.ntmps5
  go_wp2_with fail
  refine (HS.out _).mono ?_
  rintro e w1 ⟨vr, vw, rfl, hp, q1⟩
  obtain ⟨⟨s1, s2, rfl⟩, ⟨s3, s4, rfl⟩⟩ := PlanAt.form hp
  have P1 : Hid (PlanAt (w1.alloc (planO c r v (.slice s1 xs.length s2) (.slice s3 m s4))) w.heap.size xs m L (.slice s1 xs.length s2) (.slice s3 m s4) ∧ Below w.heap.size w (w1.alloc (planO c r v (.slice s1 xs.length s2) (.slice s3 m s4))) ∧ planB (w1.alloc (planO c r v (.slice s1 xs.length s2) (.slice s3 m s4))) w1.heap.size c r v (.slice s1 xs.length s2) (.slice s3 m s4)) := ⟨PlanAt.alloc hp _, q1.alloc q1.size _, BlkP.new _ _ _ _ _ _ _⟩
  have P1s : Hid (w.heap.size ≤ w1.heap.size) := q1.size
  clear hp q1
  go_wp2_with fail
  refine (HI.out _).mono ?_
  rintro e w2 ⟨ur, uw, rfl, hp, q2⟩
  obtain ⟨⟨t1, t2, rfl⟩, ⟨t3, t4, rfl⟩⟩ := PlanAt.form hp
  have P2 : Hid (PlanAt (w2.alloc (planO c r v (.slice t1 xs.length t2) (.slice t3 m t4))) (w1.heap.size + 1) xs m L (.slice t1 xs.length t2) (.slice t3 m t4)) := by
    have := PlanAt.alloc (w := w2) hp (planO c r v (.slice t1 xs.length t2) (.slice t3 m t4))
    rwa [World.size_alloc] at this
  have q2' := q2.alloc q2.size (planO c r v (.slice t1 xs.length t2) (.slice t3 m t4))
  have PL : Hid ((∀ k, (Value.slice t1 xs.length t2).ownBlock = some k → k < w2.heap.size) ∧ (∀ k, (Value.slice t3 m t4).ownBlock = some k → k < w2.heap.size)) := PlanAt.lt (w := w2) hp
  have P3 : Hid (PlanAt (w2.alloc (planO c r v (.slice t1 xs.length t2) (.slice t3 m t4))) w.heap.size xs m L (.slice s1 xs.length s2) (.slice s3 m s4) ∧ Below w.heap.size w (w2.alloc (planO c r v (.slice t1 xs.length t2) (.slice t3 m t4))) ∧ planB (w2.alloc (planO c r v (.slice t1 xs.length t2) (.slice t3 m t4))) w1.heap.size c r v (.slice s1 xs.length s2) (.slice s3 m s4) ∧ planB (w2.alloc (planO c r v (.slice t1 xs.length t2) (.slice t3 m t4))) w2.heap.size c r v (.slice t1 xs.length t2) (.slice t3 m t4) ∧ w1.heap.size + 1 ≤ w2.heap.size ∧ (∀ k, (Value.slice s1 xs.length s2).ownBlock = some k → k < w1.heap.size + 1) ∧ (∀ k, (Value.slice s3 m s4).ownBlock = some k → k < w1.heap.size + 1)) :=
    ⟨P1.out.1.later q2', P1.out.2.1.trans (q2'.mono P1.out.2.1.size), P1.out.2.2.later q2', BlkP.new _ _ _ _ _ _ _, by have := q2.size; rwa [World.size_alloc] at this, by have := P1.out.1.lt.1; rwa [World.size_alloc] at this, by have := P1.out.1.lt.2; rwa [World.size_alloc] at this⟩
  clear hp q2 q2' P1
  obtain ⟨⟨a0, a1, a2, a3, a4⟩, _⟩ := P3.out.2.2.1
  have hlt : w1.heap.size < w2.heap.size := P3.out.2.2.2.2.1
  go_wp2_with fail
  refine (eqPlan_same c r v xs m L _ _ _ _ (w1.heap.size + 1) w.heap.size _ P2.out P3.out.1 hx hm).mono ?_
  rintro e w3 ⟨rfl, q3⟩
  have P4 : Hid (PlanAt w3 (w1.heap.size + 1) xs m L (.slice t1 xs.length t2) (.slice t3 m t4) ∧ PlanAt w3 w.heap.size xs m L (.slice s1 xs.length s2) (.slice s3 m s4) ∧ Below w.heap.size w w3 ∧ planB w3 w1.heap.size c r v (.slice s1 xs.length s2) (.slice s3 m s4) ∧ planB w3 w2.heap.size c r v (.slice t1 xs.length t2) (.slice t3 m t4) ∧ w1.heap.size + 1 ≤ w3.heap.size) :=
    ⟨P2.out.later q3, P3.out.1.later q3, P3.out.2.1.trans (q3.mono P3.out.2.1.size), P3.out.2.2.1.later q3, P3.out.2.2.2.1.later q3, Nat.le_trans P3.out.2.2.2.2.1 (Nat.le_trans (by simp) q3.size)⟩
  clear q3 P2 a0 a1 a2 a3 a4
  obtain ⟨⟨b0, b1, b2, b3, b4⟩, _⟩ := P4.out.2.2.2.2.1
  go_wp2_with fail
  refine (markPlan_any c r v xs m L _ _ (w1.heap.size + 1) _ P4.out.1 hx hm P4.out.2.2.2.2.2).mono ?_
  rintro e w4 ⟨rfl, hn4, q4, k4⟩
  have P5 : Hid (Numb w4 (w1.heap.size + 1) xs.length m (.slice t1 xs.length t2) (.slice t3 m t4) ∧ PlanAt w4 w.heap.size xs m L (.slice s1 xs.length s2) (.slice s3 m s4) ∧ Below w.heap.size w w4 ∧ planB w4 w1.heap.size c r v (.slice s1 xs.length s2) (.slice s3 m s4) ∧ planB w4 w2.heap.size c r v (.slice t1 xs.length t2) (.slice t3 m t4)) :=
    ⟨hn4, P4.out.2.1.low q4 P3.out.2.2.2.2.2.1 P3.out.2.2.2.2.2.2, P4.out.2.2.1.trans (q4.mono (Nat.le_trans (Nat.le_succ _) (Nat.succ_le_succ P1s.out))), P4.out.2.2.2.1.kept (q4.block _ (Nat.lt_succ_self _)), P4.out.2.2.2.2.1.kept (k4 _ P4.out.2.2.2.2.1.lt (fun e => Nat.lt_irrefl _ (PL.out.1 _ e)) (fun e => Nat.lt_irrefl _ (PL.out.2 _ e)))⟩
  clear hn4 q4 k4 b0 b1 b2 b3 b4 P4
  obtain ⟨⟨b0, b1, b2, b3, b4⟩, _⟩ := P5.out.2.2.2.2
  go_wp2_with fail
  refine (heldPlan_any c r v xs.length m _ _ (w1.heap.size + 1) _ P5.out.1 hx hm).mono ?_
  rintro e w5 ⟨rfl, q5⟩
  have P6 : Hid (Numb w5 (w1.heap.size + 1) xs.length m (.slice t1 xs.length t2) (.slice t3 m t4) ∧ PlanAt w5 w.heap.size xs m L (.slice s1 xs.length s2) (.slice s3 m s4) ∧ Below w.heap.size w w5 ∧ planB w5 w1.heap.size c r v (.slice s1 xs.length s2) (.slice s3 m s4) ∧ planB w5 w2.heap.size c r v (.slice t1 xs.length t2) (.slice t3 m t4)) :=
    ⟨P5.out.1.later q5, P5.out.2.1.later q5, P5.out.2.2.1.trans (q5.mono P5.out.2.2.1.size), P5.out.2.2.2.1.later q5, P5.out.2.2.2.2.later q5⟩
  clear q5 P5 b0 b1 b2 b3 b4
  go_wp2_with fail
  refine (HI.out _).mono ?_
  rintro e w6 ⟨ur, uw, rfl, hp, q6⟩
  obtain ⟨⟨t5, t6, rfl⟩, ⟨t7, t8, rfl⟩⟩ := PlanAt.form hp
  have q6' := q6.alloc q6.size (planO c r v (.slice t5 xs.length t6) (.slice t7 m t8))
  have P7 : Hid (Numb (w6.alloc (planO c r v (.slice t5 xs.length t6) (.slice t7 m t8))) (w1.heap.size + 1) xs.length m (.slice t1 xs.length t2) (.slice t3 m t4) ∧ PlanAt (w6.alloc (planO c r v (.slice t5 xs.length t6) (.slice t7 m t8))) w.heap.size xs m L (.slice s1 xs.length s2) (.slice s3 m s4) ∧ Below w.heap.size w (w6.alloc (planO c r v (.slice t5 xs.length t6) (.slice t7 m t8))) ∧ planB (w6.alloc (planO c r v (.slice t5 xs.length t6) (.slice t7 m t8))) w1.heap.size c r v (.slice s1 xs.length s2) (.slice s3 m s4) ∧ planB (w6.alloc (planO c r v (.slice t5 xs.length t6) (.slice t7 m t8))) w2.heap.size c r v (.slice t1 xs.length t2) (.slice t3 m t4) ∧ PlanAt (w6.alloc (planO c r v (.slice t5 xs.length t6) (.slice t7 m t8))) w5.heap.size xs m L (.slice t5 xs.length t6) (.slice t7 m t8)) :=
    ⟨P6.out.1.later q6', P6.out.2.1.later q6', P6.out.2.2.1.trans (q6'.mono P6.out.2.2.1.size), P6.out.2.2.2.1.later q6', P6.out.2.2.2.2.later q6', PlanAt.alloc (w := w6) hp _⟩
  have hl6 : w1.heap.size < w6.heap.size := Nat.lt_of_lt_of_le P6.out.2.2.2.1.lt q6.size
  clear hp q6 q6' P6
  obtain ⟨⟨a0, a1, a2, a3, a4⟩, _⟩ := P7.out.2.2.2.1
  go_wp2_with fail
  refine (eqPlan_same c r v xs m L _ _ _ _ w5.heap.size w.heap.size _ P7.out.2.2.2.2.2 P7.out.2.1 hx hm).mono ?_
  rintro e w7 ⟨rfl, q7⟩
  have P8 : Hid (Numb w7 (w1.heap.size + 1) xs.length m (.slice t1 xs.length t2) (.slice t3 m t4) ∧ Below w.heap.size w w7 ∧ planB w7 w2.heap.size c r v (.slice t1 xs.length t2) (.slice t3 m t4)) :=
    ⟨P7.out.1.later q7, P7.out.2.2.1.trans (q7.mono P7.out.2.2.1.size), P7.out.2.2.2.2.1.later q7⟩
  clear q7 P7 a0 a1 a2 a3 a4 hl6
  obtain ⟨⟨b0, b1, b2, b3, b4⟩, _⟩ := P8.out.2.2
  go_wp2_with fail
  refine (heldPlan_any c r v xs.length m _ _ (w1.heap.size + 1) _ P8.out.1 hx hm).mono ?_
  rintro e w8 ⟨rfl, q8⟩
  have HE : Hid (Below w.heap.size w w8) := P8.out.2.1.trans (q8.mono P8.out.2.1.size)
  clear q8 P8 b0 b1 b2 b3 b4
  go_wp2
  go_ret
  exact ⟨rfl, HE.out⟩
end Go.Proofs.Ytegfpgdipmfgfaa

namespace Go.Proofs.Ytegfpgdipmfgfaa
open Go.ChangeShapes Go.WideShapes Go.ChangeAt Go.RowKit Go.Joins Go.Deep

set_option maxRecDepth 100000 in
theorem open_fsop {H : Type} {enc : TypeId × Value → H} {W : World} {base : Nat} {v : Value} {d : DataW H} {p : List MemPlace} (hv : Value.okWide Try.prog W .any base 40 v) (h : DataW.Trod enc Try.prog W 0 (fun _ => true) true 40 v d p) :
    ∃ a0 a1 a2 a3 a4 a5 : Int, v = .agg #[.int .i64 a0, .int .i64 a1, .int .i64 a2, .int .i64 a3, .int .i64 a4, .int .i64 a5] ∧ p = [] ∧ ((Lit.int .i64 a0).wf = true ∧ (Lit.int .i64 a1).wf = true ∧ (Lit.int .i64 a2).wf = true ∧ (Lit.int .i64 a3).wf = true ∧ (Lit.int .i64 a4).wf = true ∧ (Lit.int .i64 a5).wf = true) := by
  obtain ⟨v0, v1, v2, v3, v4, v5, y0, y1, y2, y3, y4, y5, n, rfl, _, rfl, t0, t1, t2, t3, t4, t5⟩ := open_agg6 Try.underlying40 (by kernel_rfl) (by kernel_rfl) hv h
  obtain ⟨a0, e0, x0, w0⟩ := DataW.trod_int Try.underlying2 t0
  obtain ⟨a1, e1, x1, w1⟩ := DataW.trod_int Try.underlying2 t1
  obtain ⟨a2, e2, x2, w2⟩ := DataW.trod_int Try.underlying2 t2
  obtain ⟨a3, e3, x3, w3⟩ := DataW.trod_int Try.underlying2 t3
  obtain ⟨a4, e4, x4, w4⟩ := DataW.trod_int Try.underlying2 t4
  obtain ⟨a5, e5, x5, w5⟩ := DataW.trod_int Try.underlying2 t5
  simp only [List.cons.injEq, and_true] at e0 e1 e2 e3 e4 e5
  subst e0 e1 e2 e3 e4 e5 x0 x1 x2 x3 x4 x5
  exact ⟨a0, a1, a2, a3, a4, a5, rfl, rfl, w0, w1, w2, w3, w4, w5⟩
end Go.Proofs.Ytegfpgdipmfgfaa

namespace Go.Proofs.Ytegfpgdipmfgfaa
open Go.RowKit

set_option maxRecDepth 100000 in
set_option maxHeartbeats 2000000 in
theorem toFsOp_is (kd d n td tn v : Int) (w : World) :
    Calls Try.prog 16 #[.agg #[.int .i64 kd, .int .i64 d, .int .i64 n, .int .i64 td, .int .i64 tn, .int .i64 v]] w fun e w' => e = .returned (.agg #[.int .i64 kd, .int .i64 d, .int .i64 n, .int .i64 td, .int .i64 tn, .int .i64 v]) ∧ Below w.heap.size w w' := by
  go_enter Try.func16, Try.ntmps16
  go_wp2
  refine bodyPost_ret (v := .agg #[.int .i64 kd, .int .i64 d, .int .i64 n, .int .i64 td, .int .i64 tn, .int .i64 v]) (by simp [results, Try.results16, go_sem]) rfl ⟨rfl, ?_⟩
  repeat (first | exact Below.refl _ _ | refine Below.setCell ?_ (by first | omega | (simp <;> omega)) _ | refine Below.alloc ?_ (by first | omega | (simp <;> omega)) _)
set_option maxRecDepth 100000 in
set_option maxHeartbeats 2000000 in
theorem fsOp_walk (kd d n td tn v : Int) (w : World) :
    Calls Try.prog 4 #[.agg #[.int .i64 kd, .int .i64 d, .int .i64 n, .int .i64 td, .int .i64 tn, .int .i64 v]] w fun e w' => e = .returned (.bool true) ∧ Below w.heap.size w w' := by
  obtain ⟨o, ho⟩ : ∃ o, opF kd d n td tn v = o := ⟨_, rfl⟩
  have HO : Hid (opF kd d n td tn v = o) := ho
  clear ho
  have HZ : Hid (Blk6 (w.alloc (.cells #[.int .i64 kd, .int .i64 d, .int .i64 n, .int .i64 td, .int .i64 tn, .int .i64 v] 40)) w.heap.size (.int .i64 kd) (.int .i64 d) (.int .i64 n) (.int .i64 td) (.int .i64 tn) (.int .i64 v)) := Blk6.new _ _ _ _ _ _ _ _
  have HL : Hid (Below w.heap.size w (w.alloc (.cells #[.int .i64 kd, .int .i64 d, .int .i64 n, .int .i64 td, .int .i64 tn, .int .i64 v] 40))) := below_alloc _ _
  go_enter Try.func4, Try.ntmps4
  go_wp2_with fail
  refine (toFsOp_is kd d n td tn v _).mono ?_
  rintro e w1 ⟨rfl, q1⟩
  have H1 : Hid (Blk6 w1 w.heap.size (.int .i64 kd) (.int .i64 d) (.int .i64 n) (.int .i64 td) (.int .i64 tn) (.int .i64 v) ∧ Below w.heap.size w w1) := ⟨HZ.out.later q1, HL.out.trans (q1.mono (by simp))⟩
  clear q1 HZ HL
  go_wp2_with fail
  refine (specFsOp_any kd d n td tn v _).mono ?_
  rintro e w2 ⟨rfl, q2⟩
  rw [HO.out]
  obtain ⟨⟨z0, z1, z2, z3, z4, z5⟩, _⟩ := H1.out.1.later q2
  have H2 : Hid (Below w.heap.size w w2) := H1.out.2.trans (q2.mono H1.out.2.size)
  clear q2 H1
  go_wp2_with fail
  refine (toFsOp_is kd d n td tn v _).mono ?_
  rintro e w3 ⟨rfl, q3⟩
  have H3 : Hid (Below w.heap.size w w3) := H2.out.trans (q3.mono H2.out.size)
  clear q3 H2 z0 z1 z2 z3 z4 z5
  go_wp2_with fail
  refine (implFsOp_any kd d n td tn v _).mono ?_
  rintro e w4 ⟨rfl, q4⟩
  rw [HO.out]
  have H4 : Hid (Below w.heap.size w w4) := H3.out.trans (q4.mono H3.out.size)
  clear q4 H3
  go_wp2
  go_ret
  exact ⟨rfl, H4.out⟩
end Go.Proofs.Ytegfpgdipmfgfaa

namespace Go.Proofs.Ytegfpgdipmfgfaa
open Go.RowKit Go.Maps

theorem intKeyed : Keyed Try.prog 2 := int_keyed Try.underlying2
def sightD (s : Bool × Int) : DataW Unit := .agg [.lit (.bool s.1), .lit (.int .i64 s.2)]
def sightR (v : Value) : Option (DataW Unit × List MemPlace) :=
  match v with
  | .agg cs => match cs.toList with
    | [.bool h, .int .i64 x] => some (sightD (h, x), [])
    | _ => none
  | _ => none
theorem sightR_mk (s : Bool × Int) : sightR (.agg #[.bool s.1, .int .i64 s.2]) = some (sightD s, []) := rfl
theorem sightR_inv {v : Value} {s : Bool × Int} {ps : List MemPlace} (h : sightR v = some (sightD s, ps)) : v = .agg #[.bool s.1, .int .i64 s.2] := by
  unfold sightR at h
  split at h
  · rename_i cs
    split at h
    · rename_i hh xx e
      simp only [sightD, Option.some.injEq, Prod.mk.injEq, DataW.agg.injEq, List.cons.injEq, DataW.lit.injEq, Lit.bool.injEq, Lit.int.injEq, true_and, and_true] at h
      obtain ⟨⟨rfl, rfl⟩, _⟩ := h
      have : cs = #[.bool s.1, .int .i64 s.2] := by rw [← Array.toList_inj]; exact e
      rw [this]
    · cases h
  · cases h
/-- Block b is a map of at most n entries: at key k it has m k. -/
def SM (w : World) (b n : Nat) (m : Int → Option (Bool × Int)) : Prop :=
  ∃ D : DataW Unit, w.ownsMap Try.prog 2 sightR b n D ∧ ∀ x, (Lit.int .i64 x).wf = true → Maps.has D (.int .i64 x) = (m x).isSome ∧ D.atKey (.int .i64 x) (sightD (false, 0)) = sightD ((m x).getD (false, 0))
theorem SM.made (w : World) : SM (w.alloc (.map #[] 0)) w.heap.size 0 (fun _ => none) := ⟨.map [], World.ownsMap_made w _ _ _, fun _ _ => ⟨rfl, rfl⟩⟩
theorem SM.lt {w : World} {b n : Nat} {m : Int → Option (Bool × Int)} (h : SM w b n m) : b < w.heap.size := by
  obtain ⟨D, h, _⟩ := h; exact h.lt
theorem SM.kept {w w' : World} {b n : Nat} {m : Int → Option (Bool × Int)} (h : SM w b n m) (hb : w'.heap[b]? = w.heap[b]?) : SM w' b n m := by
  obtain ⟨D, ⟨es, clock, h1, h2⟩, r⟩ := h
  exact ⟨D, ⟨es, clock, hb.trans h1, h2⟩, r⟩
theorem SM.later {w w' : World} {b n : Nat} {m : Int → Option (Bool × Int)} (h : SM w b n m) (hb : Below w.heap.size w w') : SM w' b n m := h.kept (hb.block b h.lt)
theorem zero_sight (w : World) : (zeroValue 110).run Try.prog w = .ok (.agg #[.bool false, .int .i64 0]) w := by kernel_rfl
/-- 'v, ok := m[k]', 'm[k]'. -/
theorem SM.look {w : World} {b n : Nat} {m : Int → Option (Bool × Int)} (h : SM w b n m) {x : Int} (hx : (Lit.int .i64 x).wf = true) :
    (Instr.lookup 98 (.map (some b)) (.int .i64 x) true).run Try.prog w = .ok (.tuple #[.agg #[.bool ((m x).getD (false, 0)).1, .int .i64 ((m x).getD (false, 0)).2], .bool (m x).isSome]) w := by
  obtain ⟨D, h, r⟩ := h
  obtain ⟨v, ps, hrun, hv⟩ := h.look_ok intKeyed Try.underlying98 (zero_sight w) (sightR_mk (false, 0)) (keyOf_int_mk Try.underlying2 hx)
  rw [(r x hx).2] at hv
  rw [hrun, (r x hx).1, sightR_inv hv]
theorem SM.look1 {w : World} {b n : Nat} {m : Int → Option (Bool × Int)} (h : SM w b n m) {x : Int} (hx : (Lit.int .i64 x).wf = true) :
    (Instr.lookup 98 (.map (some b)) (.int .i64 x) false).run Try.prog w = .ok (.agg #[.bool ((m x).getD (false, 0)).1, .int .i64 ((m x).getD (false, 0)).2]) w := by
  obtain ⟨D, h, r⟩ := h
  obtain ⟨v, ps, hrun, hv⟩ := h.lookup intKeyed Try.underlying98 (zero_sight w) (sightR_mk (false, 0)) (keyOf_int_mk Try.underlying2 hx)
  rw [(r x hx).2] at hv
  rw [hrun, sightR_inv hv]
theorem keyLit (x : Int) : WideAt.IsKeyLit (.int .i64 x) := trivial
def putS1 (m : Int → Option (Bool × Int)) (a : Int) (v : Bool × Int) (x : Int) : Option (Bool × Int) := if x = a then some v else m x
/-- 'm[k] = v'. -/
theorem SM.put {w : World} {b n : Nat} {m : Int → Option (Bool × Int)} (h : SM w b n m) (hn : n < maxLen) {x : Int} (hx : (Lit.int .i64 x).wf = true) (s : Bool × Int) :
    ∃ w', (Instr.mapUpdate 98 (.map (some b)) (.int .i64 x) (.agg #[.bool s.1, .int .i64 s.2])).run Try.prog w = .ok () w' ∧ SM w' b (n + 1) (putS1 m x s) ∧ w.grownBy w' (some b) := by
  obtain ⟨D, h, r⟩ := h
  obtain ⟨w', hrun, h', hg⟩ := h.update intKeyed Try.underlying98 hn (keyOf_int_mk Try.underlying2 hx) (sightR_mk s)
  refine ⟨w', hrun, ⟨_, h', fun p hp => ?_⟩, hg⟩
  unfold putS1
  by_cases e : p = x
  · subst e
    rw [if_pos rfl]
    exact ⟨has_put_same h.isMap (keyLit _) _, atKey_put_same h.isMap (keyLit _) _ _⟩
  · rw [if_neg e, has_put_other (fun q => e (by simpa using q)), atKey_put_other (fun q => e (by simpa using q))]
    exact r p hp
theorem wf_key {a : Int} (h0 : 0 ≤ a) (h1 : a ≤ 100000) : (Lit.int .i64 a).wf = true := by
  have e0 : IntKind.i64.min = -9223372036854775808 := by decide
  have e1 : IntKind.i64.max = 9223372036854775807 := by decide
  simp [Lit.wf, e0, e1]
  omega
end Go.Proofs.Ytegfpgdipmfgfaa

namespace Go.Proofs.Ytegfpgdipmfgfaa
open Go.RowKit Go.Maps

/-- What was read: each key once, in order. -/
def addR (xs : List Int) (k : Int) : List Int := if k ∈ xs then xs else xs ++ [k]
/-- What stands by its key. -/
def seenM (L : Prs) (xs : List Int) (k : Int) : Option (Bool × Int) := if k ∈ xs then some (lookF L k) else none
theorem SM.congr {w : World} {b n : Nat} {m m' : Int → Option (Bool × Int)} (h : SM w b n m) (e : ∀ x, m x = m' x) : SM w b n m' := by
  obtain ⟨D, h1, r⟩ := h; exact ⟨D, h1, fun x hx => by rw [← e]; exact r x hx⟩
/-- The view that is looked at: its box rb, its pairs in blocks below mb. -/
def Viewed (w : World) (rb mb : Nat) (L : Prs) : Prop := ∃ v, Blk2 w rb v (.func (.func 73) #[] #[]) ∧ Own w (rb + 1) 36 2 L.length (rowL L) v ∧ ∀ k, v.ownBlock = some k → k < mb
/-- The box b of a looking: the view's box rb, the map mb, what was read. -/
def Looks (w : World) (b rb mb : Nat) (L : Prs) (xs : List Int) (vr : Value) : Prop :=
  Blk3 w b (.pointer (some ⟨rb, 0, none⟩)) (.map (some mb)) vr ∧ Viewed w rb mb L ∧ SM w mb xs.length (seenM L xs) ∧ Ints w (b + 1) vr xs ∧ rb < mb ∧ mb < b
theorem Viewed.kept {w w' : World} {rb mb : Nat} {L : Prs} (h : Viewed w rb mb L) (hb : ∀ k, k < w.heap.size → k < mb → w'.heap[k]? = w.heap[k]?) (hr : rb < mb) : Viewed w' rb mb L := by
  obtain ⟨v, h1, h2, h3⟩ := h
  exact ⟨v, h1.kept (hb rb h1.lt hr), own_kept h2 (fun k hk => hb k (own_in h2 k hk).2 (h3 k hk)), h3⟩
/-- Blocks that a looking does not write into are as they were; what it has read lies where it lay, or in new memory. -/
def Keeps (w w' : World) (b mb : Nat) (vr vr' : Value) : Prop :=
  (w'.os = w.os ∧ w'.tape = w.tape ∧ w'.output = w.output) ∧ w.heap.size ≤ w'.heap.size ∧ (∀ k, k < w.heap.size → k ≠ b → k ≠ mb → vr.ownBlock ≠ some k → w'.heap[k]? = w.heap[k]?) ∧ ∀ k, vr'.ownBlock = some k → k < w.heap.size → vr.ownBlock = some k
theorem Keeps.below {w w' : World} (b mb : Nat) (vr : Value) (h : Below w.heap.size w w') : Keeps w w' b mb vr vr := ⟨⟨h.os, h.tape, h.output⟩, h.size, fun k hk _ _ _ => h.block k hk, fun _ hk _ => hk⟩
theorem Keeps.trans {w w' w'' : World} {b mb : Nat} {vr vr' vr'' : Value} (h : Keeps w w' b mb vr vr') (h' : Keeps w' w'' b mb vr' vr'') : Keeps w w'' b mb vr vr'' :=
  ⟨⟨h'.1.1.trans h.1.1, h'.1.2.1.trans h.1.2.1, h'.1.2.2.trans h.1.2.2⟩, Nat.le_trans h.2.1 h'.2.1, fun k hk h1 h2 h3 => (h'.2.2.1 k (Nat.lt_of_lt_of_le hk h.2.1) h1 h2 (fun e => h3 (h.2.2.2 k e hk))).trans (h.2.2.1 k hk h1 h2 h3), fun k hk hw => h.2.2.2 k (h'.2.2.2 k hk (Nat.lt_of_lt_of_le hw h.2.1)) hw⟩
theorem Looks.later {w w' : World} {b rb mb : Nat} {L : Prs} {xs : List Int} {vr : Value} (h : Looks w b rb mb L xs vr) (hb : Below w.heap.size w w') : Looks w' b rb mb L xs vr :=
  ⟨h.1.later hb, h.2.1.kept (fun k hk _ => hb.block k hk) h.2.2.2.2.1, h.2.2.1.later hb, h.2.2.2.1.later hb, h.2.2.2.2⟩
theorem Looks.alloc {w : World} {b rb mb : Nat} {L : Prs} {xs : List Int} {vr : Value} (h : Looks w b rb mb L xs vr) (o : Obj) : Looks (w.alloc o) b rb mb L xs vr := h.later (below_alloc _ _)
theorem Keeps.toBelow {w w' : World} {b mb B : Nat} {vr vr' : Value} (h : Keeps w w' b mb vr vr') (hB : B ≤ w.heap.size) (h1 : B ≤ b) (h2 : B ≤ mb) (h3 : ∀ k, vr.ownBlock = some k → B ≤ k) : Below B w w' :=
  ⟨h.1.1, h.1.2.1, h.1.2.2, h.2.1, fun k hk => h.2.2.1 k (by omega) (by omega) (by omega) (fun e => by have := h3 k e; omega)⟩
theorem Blk3.set2L {x : World} {b : Nat} {a0 a1 a2 : Value} (h : Blk3 x b a0 a1 a2) (u : Value) : Blk3 (x.setCell ⟨b, 2, none⟩ u) b a0 a1 u := by
  obtain ⟨⟨h0, h1, h2⟩, f0, f1, f2⟩ := h
  exact ⟨⟨(World.cell?_setCell_other _ _ _ _ (by simp)).trans h0, (World.cell?_setCell_other _ _ _ _ (by simp)).trans h1, World.cell?_setCell_same _ _ _ h2⟩, by simpa using f0, by simpa using f1, by simpa using f2⟩
theorem find_look {L : Prs} {key y z : Int} {r : Bool} (hr : Rises L) (h1 : r = true ↔ atKey L key) (h2 : r = true → (y, z) = L.getD (aheadN L key) (0, 0)) (h3 : r = false → y = 0 ∧ z = 0) : lookF L key = (r, z) := by
  cases r with
  | true => rw [look_at (h1.1 rfl), ← h2 rfl]
  | false => rw [look_no hr (fun q => Bool.false_ne_true (h1.2 q)), (h3 rfl).2]
def LookAns (w : World) (b rb mb : Nat) (L : Prs) (xs : List Int) (vr : Value) (key : Int) (e : Ending) (w' : World) : Prop :=
  e = .returned (.agg #[.bool (lookF L key).1, .int .i64 (lookF L key).2]) ∧ ∃ vr', Looks w' b rb mb L (addR xs key) vr' ∧ Keeps w w' b mb vr vr'
set_option maxRecDepth 100000 in
set_option maxHeartbeats 4000000 in
theorem look_old (L : Prs) (b rb mb : Nat) (xs : List Int) (vr : Value) (key : Int) (w : World) (h : Looks w b rb mb L xs vr) (hk : 0 ≤ key ∧ key ≤ 199) (hin : key ∈ xs) :
    Calls Try.prog 81 #[.pointer (some ⟨b, 0, none⟩), .int .i64 key] w (LookAns w b rb mb L xs vr key) := by
  have HL : Hid (Looks w b rb mb L xs vr ∧ key ∈ xs) := ⟨h, hin⟩
  obtain ⟨s, hs⟩ : ∃ s, lookF L key = s := ⟨_, rfl⟩
  obtain ⟨r, z⟩ := s
  have HS : Hid (lookF L key = (r, z)) := hs
  have hm : seenM L xs key = some (r, z) := by unfold seenM; rw [if_pos hin, hs]
  have hlook := (h.2.2.1.later (below_alloc w (.cells #[.bool false, .int .i64 0] 110))).look (wf_key hk.1 (by omega))
  rw [hm] at hlook
  have hlook' : (Instr.lookup 98 (.map (some mb)) (.int .i64 key) true).run Try.prog (w.alloc (.cells #[.bool false, .int .i64 0] 110)) = .ok (.tuple #[.agg #[.bool r, .int .i64 z], .bool true]) (w.alloc (.cells #[.bool false, .int .i64 0] 110)) := hlook
  obtain ⟨⟨c0, c1, c2⟩, _⟩ := h.1
  have hlt := h.1.lt
  clear hlook hs hm h hin
  go_enter Try.func81, Try.ntmps81
  go_wp2
  refine bodyPost_ret (v := .agg #[.bool r, .int .i64 z]) (by simp [results, Try.results81, go_sem]) rfl ?_
  have hB : Below w.heap.size w ((w.alloc (.cells #[.bool r, .int .i64 z] 110)).alloc (.cells #[.bool r, .int .i64 z] 110)) := (below_alloc _ _).alloc (by simp) _
  unfold LookAns
  rw [HS.out]
  refine ⟨rfl, vr, ?_, Keeps.below _ _ _ hB⟩
  rw [show addR xs key = xs from if_pos HL.out.2]
  exact HL.out.1.later hB
theorem info_i64L : (Try.prog.info? 2).map (fun i => (i.zero, i.size, i.bytes)) = some (some (.int .i64 0), 1, 8) := by kernel_rfl
theorem run_lit1L (x : Int) (w : World) : (Instr.buildSlice 29 1 #[(0, .int .i64 x)]).run Try.prog w = .ok (.slice (some ⟨w.heap.size, 0, none⟩) 1 1) (w.alloc (.cells #[.int .i64 x] 2)) := by
  first | kernel_rfl | rfl
theorem row_lit1 (Y : World) (x : Int) : Row (Y.alloc (.cells #[.int .i64 x] 2)) Y.heap.size 1 1 (fun p => [x].getD p 0) (.slice (some ⟨Y.heap.size, 0, none⟩) 1 1) :=
  (OwnM.rowL (OwnM.lit Y 2 1 1 [x] #[.int .i64 x] (by simp) rfl (by unfold maxLen; omega))).1
theorem seen_put {L : Prs} {xs : List Int} {key : Int} {s : Bool × Int} (hs : lookF L key = s) (x : Int) : putS1 (seenM L xs) key s x = seenM L (xs ++ [key]) x := by
  unfold putS1 seenM
  by_cases e : x = key
  · subst e
    rw [if_pos rfl, if_pos (by simp), hs]
  · rw [if_neg e]
    by_cases h : x ∈ xs
    · rw [if_pos h, if_pos (by simp [h])]
    · rw [if_neg h, if_neg (by simp [h, e])]
/-- Behind the append: the box still has the old list; its new one is u. -/
def LookApp (w w6 : World) (b rb mb : Nat) (L : Prs) (ys : List Int) (v u : Value) : Prop :=
  (Blk3 w6 b (.pointer (some ⟨rb, 0, none⟩)) (.map (some mb)) v ∧ Viewed w6 rb mb L ∧ SM w6 mb ys.length (seenM L ys) ∧ Blk2 w6 w.heap.size (.bool false) (.int .i64 0)) ∧ (Ints w6 (b + 1) u ys ∧ ∀ k, u.ownBlock = some k → k ≠ w.heap.size) ∧ (b < w.heap.size ∧ mb < b ∧ rb < mb) ∧ Keeps w w6 b mb v u
theorem look_app {w w5 w6 : World} {b rb mb : Nat} {L : Prs} {xs : List Int} {key : Int} {ao ao1 : Option Addr} {cp cp1 : Nat}
    (h1 : Blk3 w5 b (.pointer (some ⟨rb, 0, none⟩)) (.map (some mb)) (.slice ao xs.length cp)) (h2 : Viewed w5 rb mb L) (h3 : SM w5 mb (xs.length + 1) (seenM L (xs ++ [key]))) (h4 : Blk2 w5 w.heap.size (.bool false) (.int .i64 0))
    (ho : ∀ k, (Value.slice ao xs.length cp).ownBlock = some k → k ≠ b ∧ k ≠ mb ∧ k ≠ w.heap.size ∧ k < w5.heap.size) (hvb : ∀ k, (Value.slice ao xs.length cp).ownBlock = some k → b + 1 ≤ k)
    (O6 : OwnM w6 (b + 1) 2 1 (.slice ao1 (xs.length + 1) cp1) (xs.length + 1) (xs ++ nums (fun p => [key].getD p 0) (1 * 1)))
    (G6 : (w5.alloc (.cells #[.int .i64 key] 2)).grownBy w6 (Value.slice ao xs.length cp).ownBlock)
    (N6 : (Value.slice ao1 (xs.length + 1) cp1).ownBlock = (Value.slice ao xs.length cp).ownBlock ∨ (Value.slice ao1 (xs.length + 1) cp1).ownBlock = some (w5.alloc (.cells #[.int .i64 key] 2)).heap.size)
    (hb : b < w.heap.size) (hm : mb < b) (hr : rb < mb) (hK : Keeps w w5 b mb (.slice ao xs.length cp) (.slice ao xs.length cp)) :
    LookApp w w6 b rb mb L (xs ++ [key]) (.slice ao xs.length cp) (.slice ao1 (xs.length + 1) cp1) := by
  have kp : ∀ k, k < w5.heap.size → (Value.slice ao xs.length cp).ownBlock ≠ some k → w6.heap[k]? = w5.heap[k]? := fun k hk hne => (G6.block k (by simp; omega) (fun e => hne e.symm)).trans (Below.heap_alloc w5 _ k hk)
  have hsz : w5.heap.size ≤ w6.heap.size := Nat.le_trans (by simp) G6.size
  refine ⟨⟨h1.kept (kp b h1.lt (fun e => (ho b e).1 rfl)), h2.kept (fun k hk hkm => kp k hk (fun e => by have := hvb k e; omega)) hr, ?_, h4.kept (kp _ h4.lt (fun e => (ho _ e).2.2.1 rfl))⟩, ⟨?_, ?_⟩, ⟨hb, hm, hr⟩, hK.trans ⟨⟨G6.os, G6.tape, G6.output⟩, hsz, fun k hk _ _ hne => kp k hk hne, fun k hk hlt => ?_⟩⟩
  · rw [List.length_append]
    exact h3.kept (kp mb h3.lt (fun e => (ho mb e).2.1 rfl))
  · have e : nums (fun p => [key].getD p 0) (1 * 1) = [key] := rfl
    rw [e] at O6
    unfold Ints
    rw [List.length_append]
    exact O6
  · intro k hk
    rcases N6 with q | q
    · exact (ho k (by rw [← q]; exact hk)).2.2.1
    · rw [q] at hk
      have := Option.some.inj hk
      have := h4.lt
      simp at *
      omega
  · rcases N6 with q | q
    · rw [← q]; exact hk
    · rw [q] at hk
      have := Option.some.inj hk
      simp at this
      omega
theorem LookApp.cells {w w6 : World} {b rb mb : Nat} {L : Prs} {ys : List Int} {v u : Value} (h : LookApp w w6 b rb mb L ys v u) :
    w6.cell? ⟨b, 0, none⟩ = some (.pointer (some ⟨rb, 0, none⟩)) ∧ w6.cell? ⟨b, 1, none⟩ = some (.map (some mb)) ∧ w6.cell? ⟨b, 2, none⟩ = some v ∧ w6.frozen? ⟨b, 2, none⟩ = false ∧ w6.cell? ⟨w.heap.size, 0, none⟩ = some (.bool false) ∧ w6.cell? ⟨w.heap.size, 1, none⟩ = some (.int .i64 0) ∧ w6.frozen? ⟨w.heap.size, 0, none⟩ = false ∧ w6.frozen? ⟨w.heap.size, 1, none⟩ = false :=
  ⟨h.1.1.1.1, h.1.1.1.2.1, h.1.1.1.2.2, h.1.1.2.2.2, h.1.2.2.2.1.1, h.1.2.2.2.1.2, h.1.2.2.2.2.1, h.1.2.2.2.2.2⟩
theorem LookApp.look {w w6 : World} {b rb mb : Nat} {L : Prs} {xs : List Int} {v u : Value} {key : Int} {s : Bool × Int} (h : LookApp w w6 b rb mb L (xs ++ [key]) v u) (hwf : (Lit.int .i64 key).wf = true) (hs : lookF L key = s) :
    (Instr.lookup 98 (.map (some mb)) (.int .i64 key) false).run Try.prog (w6.setCell ⟨b, 2, none⟩ u) = .ok (.agg #[.bool s.1, .int .i64 s.2]) (w6.setCell ⟨b, 2, none⟩ u) := by
  have h1 := (h.1.2.2.1.kept (Below.heap_setCell w6 ⟨b, 2, none⟩ u mb (by have := h.2.2.1.2.1; simp; omega))).look1 hwf
  have h2 : seenM L (xs ++ [key]) key = some s := by unfold seenM; rw [if_pos (by simp), hs]
  rw [h2] at h1
  exact h1
theorem LookApp.done {w w6 : World} {b rb mb : Nat} {L : Prs} {ys : List Int} {v u : Value} (h : LookApp w w6 b rb mb L ys v u) (p q : Value) :
    Looks (((w6.setCell ⟨b, 2, none⟩ u).setCell ⟨w.heap.size, 0, none⟩ p).setCell ⟨w.heap.size, 1, none⟩ q) b rb mb L ys u ∧ Keeps w (((w6.setCell ⟨b, 2, none⟩ u).setCell ⟨w.heap.size, 0, none⟩ p).setCell ⟨w.heap.size, 1, none⟩ q) b mb v u := by
  obtain ⟨⟨h1, h2, h3, h4⟩, ⟨h5, h6⟩, ⟨hb, hm, hr⟩, h7⟩ := h
  have kp : ∀ k, k ≠ b → k ≠ w.heap.size → (((w6.setCell ⟨b, 2, none⟩ u).setCell ⟨w.heap.size, 0, none⟩ p).setCell ⟨w.heap.size, 1, none⟩ q).heap[k]? = w6.heap[k]? := fun k hk hw => ((Below.heap_setCell _ ⟨w.heap.size, 1, none⟩ q k hw).trans (Below.heap_setCell _ ⟨w.heap.size, 0, none⟩ p k hw)).trans (Below.heap_setCell w6 ⟨b, 2, none⟩ u k hk)
  have kb : (((w6.setCell ⟨b, 2, none⟩ u).setCell ⟨w.heap.size, 0, none⟩ p).setCell ⟨w.heap.size, 1, none⟩ q).heap[b]? = (w6.setCell ⟨b, 2, none⟩ u).heap[b]? := (Below.heap_setCell _ ⟨w.heap.size, 1, none⟩ q b (by simp; omega)).trans (Below.heap_setCell _ ⟨w.heap.size, 0, none⟩ p b (by simp; omega))
  have hi : OwnM w6 (b + 1) 2 1 u ys.length ys := h5
  refine ⟨⟨(h1.set2L u).kept kb, h2.kept (fun k _ hk => kp k (by omega) (by omega)) hr, h3.kept (kp mb (by omega) (by omega)), OwnM.keptB hi (fun k hk => kp k (by have := (h5.lt k hk).1; omega) (h6 k hk)), hr, hm⟩, ⟨h7.1, by simpa using h7.2.1, fun k hk h1 h2 h3 => (kp k h1 (by omega)).trans (h7.2.2.1 k hk h1 h2 h3), h7.2.2.2⟩⟩
set_option maxRecDepth 100000 in
set_option maxHeartbeats 4000000 in
theorem look_new (L : Prs) (b rb mb : Nat) (xs : List Int) (vr : Value) (key : Int) (w : World) (h : Looks w b rb mb L xs vr) (hrs : Rises L) (hn : L.length ≤ 1000) (hk : 0 ≤ key ∧ key ≤ 199) (hx : xs.length ≤ 1000) (hin : ¬ key ∈ xs) :
    Calls Try.prog 81 #[.pointer (some ⟨b, 0, none⟩), .int .i64 key] w (LookAns w b rb mb L xs vr key) := by
  obtain ⟨ao, cp, rfl⟩ := h.2.2.2.1.form
  have HL : Hid (Looks w b rb mb L xs (.slice ao xs.length cp) ∧ ¬ key ∈ xs ∧ Rises L) := ⟨h, hin, hrs⟩
  obtain ⟨i0, hi, hz⟩ : ∃ i, Try.prog.info? 2 = some i ∧ (i.zero, i.size, i.bytes) = (some (.int .i64 0), 1, 8) := by
    have := info_i64L
    cases q : Try.prog.info? 2 with
    | none => rw [q] at this; cases this
    | some i => rw [q] at this; exact ⟨i, rfl, Option.some.inj this⟩
  simp only [Prod.mk.injEq] at hz
  obtain ⟨hz0, hz1, hz2⟩ := hz
  have hwf := wf_key hk.1 (show key ≤ 100000 by omega)
  have hm : seenM L xs key = none := if_neg hin
  have hlook := (h.2.2.1.later (below_alloc w (.cells #[.bool false, .int .i64 0] 110))).look hwf
  rw [hm] at hlook
  have hlook' : (Instr.lookup 98 (.map (some mb)) (.int .i64 key) true).run Try.prog (w.alloc (.cells #[.bool false, .int .i64 0] 110)) = .ok (.tuple #[.agg #[.bool false, .int .i64 0], .bool false]) (w.alloc (.cells #[.bool false, .int .i64 0] 110)) := hlook
  obtain ⟨⟨c0, c1, c2⟩, _⟩ := h.1
  have hlt := h.1.lt
  have HLT : Hid (b < w.heap.size ∧ mb < b ∧ rb < mb) := ⟨hlt, h.2.2.2.2.2, h.2.2.2.2.1⟩
  have HB2 : Hid (Below w.heap.size w ((w.alloc (.cells #[.bool false, .int .i64 0] 110)).alloc (.cells #[.bool false, .int .i64 0] 110))) := (below_alloc _ _).alloc (by simp) _
  obtain ⟨v0, V1, V2, V3⟩ := h.2.1
  have HV : Hid (Blk2 w rb v0 (.func (.func 73) #[] #[]) ∧ Own w (rb + 1) 36 2 L.length (rowL L) v0) := ⟨V1, V2⟩
  have HR : Hid (Blk2 (w.alloc (.cells #[.bool false, .int .i64 0] 110)) w.heap.size (.bool false) (.int .i64 0)) := Blk2.new _ _ _ _
  have HK : Hid (0 ≤ key ∧ key ≤ 199) := hk
  clear hlook hm h hin V1 V2 V3 hrs hk
  go_enter Try.func81, Try.ntmps81
  go_wp2_with fail
  refine (find_any L rb (rb + 1) v0 key 0 _ ((HV.out.1.alloc _).alloc _) ((HV.out.2.alloc _).alloc _) HL.out.2.2 hn).mono ?_
  rintro e w3 ⟨r, y, z, rfl, hr1, hr2, hr3, q3⟩
  have HS : Hid (lookF L key = (r, z)) := find_look HL.out.2.2 hr1 hr2 hr3
  have HB3 : Hid (Below w.heap.size w (w3.alloc (.cells #[.int .i64 y, .int .i64 z] 36))) := (HB2.out.trans (q3.mono (by simp; omega))).alloc (Nat.le_trans HB2.out.size q3.size) _
  have HR3 : Hid (Blk2 (w3.alloc (.cells #[.int .i64 y, .int .i64 z] 36)) w.heap.size (.bool false) (.int .i64 0) ∧ w.heap.size < w3.heap.size) := ⟨((HR.out.alloc _).later q3).alloc _, Nat.lt_of_lt_of_le (by simp; omega) q3.size⟩
  have HL3 : Hid (Looks (w3.alloc (.cells #[.int .i64 y, .int .i64 z] 36)) b rb mb L xs (.slice ao xs.length cp)) := HL.out.1.later HB3.out
  clear hr1 hr2 hr3 q3 c0 c1 c2 HV HR hlook' HB2
  go_upto_region 5 with fail
  have hpb := (Blk2.new w3 (.int .i64 y) (.int .i64 z) 36).1.2
  have HPB : Hid (w3.heap.size < (w3.alloc (.cells #[.int .i64 y, .int .i64 z] 36)).heap.size) := by unfold Hid; simp
  generalize w3.alloc (.cells #[.int .i64 y, .int .i64 z] 36) = w4 at HB3 HR3 HL3 hpb HPB ⊢
  obtain ⟨⟨c0, c1, c2⟩, f0, f1, f2⟩ := HL3.out.1
  obtain ⟨w5, hrun, hP5, hg5⟩ := SM.put (w := w4.drew) (HL3.out.2.2.1.kept rfl) (Nat.lt_of_le_of_lt hx (by decide)) hwf (r, z)
  have hk5 : ∀ i, i < w4.heap.size → i ≠ mb → w5.heap[i]? = w4.heap[i]? := fun i hi hne => hg5.block i hi (fun e => hne (Option.some.inj e))
  have S5 : w5.cell? ⟨b, 1, none⟩ = some (.map (some mb)) ∧ w5.cell? ⟨w3.heap.size, 1, none⟩ = some (.int .i64 z) := by
    have e1 := hk5 b HL3.out.1.lt (by have := HLT.out; omega)
    have e2 := hk5 w3.heap.size HPB.out (by have := HLT.out; have := HR3.out.2; omega)
    exact ⟨(World.cell?_of_block (w := w4) (a := ⟨b, 1, none⟩) e1).trans c1, (World.cell?_of_block (w := w4) (a := ⟨w3.heap.size, 1, none⟩) e2).trans hpb⟩
  have HL5 : Hid (Blk3 w5 b (.pointer (some ⟨rb, 0, none⟩)) (.map (some mb)) (.slice ao xs.length cp) ∧ Viewed w5 rb mb L ∧ SM w5 mb (xs.length + 1) (seenM L (xs ++ [key])) ∧ Ints w5 (b + 1) (.slice ao xs.length cp) xs) :=
    ⟨HL3.out.1.kept (hk5 b HL3.out.1.lt (by have := HLT.out; omega)), HL3.out.2.1.kept (fun k hk hm => hk5 k hk (by omega)) HLT.out.2.2, hP5.congr (seen_put HS.out), Ints.grown (w := w4) HL3.out.2.2.2.1 ⟨hg5.os, hg5.tape, hg5.output, hg5.size, hg5.block⟩ (fun k hk e => by have := (HL3.out.2.2.2.1.lt k hk).1; have := HLT.out; cases e; omega)⟩
  have HR5 : Hid (Blk2 w5 w.heap.size (.bool false) (.int .i64 0)) := HR3.out.1.kept (hk5 _ HR3.out.1.lt (by have := HLT.out; omega))
  have HK5 : Hid (Keeps w w5 b mb (.slice ao xs.length cp) (.slice ao xs.length cp)) := (Keeps.below b mb _ HB3.out).trans ⟨⟨hg5.os, hg5.tape, hg5.output⟩, hg5.size, fun k hk _ h2 _ => hk5 k hk h2, fun _ hk _ => hk⟩
  clear hk5 hP5 hg5 HR3 HL3 HPB HB3 c0 c2 f0 f1 f2
  refine wp_region_held_drew (S := fun X => X.cell? ⟨b, 1, none⟩ = some (.map (some mb)) ∧ X.cell? ⟨w3.heap.size, 1, none⟩ = some (.int .i64 z)) (by kernel_rfl) ⟨c1, hpb⟩ (fun hS => ?_)
  refine tkH 0 ?_ hS (fun wx hx => ?_) ?_; rotate_left
  · obtain ⟨hx0, hx1⟩ := hx; go_simp; try with_reducible rfl
  refine tkH 1 ?_ hS (fun wx hx => ?_) ?_; rotate_left
  · obtain ⟨hx0, hx1⟩ := hx; go_simp; try with_reducible rfl
  refine tkH 2 ?_ hS (fun wx hx => ?_) ?_; rotate_left
  · obtain ⟨hx0, hx1⟩ := hx; go_simp; try with_reducible rfl
  refine tkH 3 ?_ hS (fun wx hx => ?_) ?_; rotate_left
  · obtain ⟨hx0, hx1⟩ := hx; go_simp; try with_reducible rfl
  refine tkH 4 ?_ hS (fun wx hx => ?_) ?_; rotate_left
  · obtain ⟨hx0, hx1⟩ := hx; go_simp; try with_reducible rfl
  refine tkH 5 ?_ hS (fun wx hx => ?_) ?_; rotate_left
  · obtain ⟨hx0, hx1⟩ := hx; go_simp; try with_reducible rfl
  refine tkH 6 ?_ hS (fun wx hx => ?_) ?_; rotate_left
  · obtain ⟨hx0, hx1⟩ := hx; go_simp; try with_reducible rfl
  refine tkH 7 ?_ hS (fun wx hx => ?_) ?_; rotate_left
  · obtain ⟨hx0, hx1⟩ := hx; go_simp; try with_reducible rfl
  refine tkH 8 ?_ hS (fun wx hx => ?_) ?_; rotate_left
  · obtain ⟨hx0, hx1⟩ := hx; go_simp; try with_reducible rfl
  refine rdH 9 (fun K hK => ?_)
  go_simp
  refine hK.out _ _ S5 (fun hS => ?_)
  clear hK K
  refine wpAnyH_done (by kernel_rfl) ?_ _
  go_simp
  obtain ⟨⟨c0, c1', c2⟩, f0, f1, f2⟩ := HL5.out.1
  have hl5 : b < w5.heap.size := HL5.out.1.lt
  have hlit := fun w => run_lit1L key w
  have HO : Hid (OwnM (w5.alloc (.cells #[.int .i64 key] 2)) (b + 1) 2 1 (.slice ao xs.length cp) xs.length xs) := OwnM.later (show OwnM w5 (b + 1) 2 1 (.slice ao xs.length cp) xs.length xs from HL5.out.2.2.2) (below_alloc _ _)
  have HRW : Hid (Row (w5.alloc (.cells #[.int .i64 key] 2)) w5.heap.size 1 1 (fun p => [key].getD p 0) (.slice (some ⟨w5.heap.size, 0, none⟩) 1 1)) := row_lit1 w5 key
  clear hrun hS S5 hpb c1
  have HOB : Hid (∀ k, (Value.slice ao xs.length cp).ownBlock = some k → k ≠ b ∧ k ≠ mb ∧ k ≠ w.heap.size ∧ k < w5.heap.size) := fun k hk => by
    have h1 := HL.out.1.2.2.2.1.lt k hk
    have h2 := (HL5.out.2.2.2.lt k hk).2
    have := HLT.out
    exact ⟨by omega, by omega, by omega, h2⟩
  go_wp2_with (at_builtin; refine wpList_appL 2 i0 (.int .i64 0) 1 8 rfl _ _ 29 rfl Try.underlying29 hi hz0 hz1 hz2 rfl (by omega) (by omega) _ (b + 1) xs.length xs (.slice ao xs.length cp) rfl HO.out w5.heap.size 1 (fun p => [key].getD p 0) _ rfl HRW.out (by omega) (by simp; omega) ?_; intro ao1 cp1 w6 O6 G6 N6; have H6 := look_app HL5.out.1 HL5.out.2.1 HL5.out.2.2.1 HR5.out HOB.out (fun k hk => (HL5.out.2.2.2.lt k hk).1) O6 G6 N6 hlt HLT.out.2.1 HLT.out.2.2 HK5.out; have HH6 : Hid (LookApp w w6 b rb mb L (xs ++ [key]) (.slice ao xs.length cp) (.slice ao1 (xs.length + 1) cp1)) := H6; have hl6 := H6.look hwf HS.out; obtain ⟨d0, d1, d2, e2, z0, z1, g0, g1⟩ := H6.cells; clear O6 G6 N6 H6 HO HRW HOB HL5 HR5 HK5 c0 c1' c2 f0 f1 f2 hlit)
  have HF : Hid (_ ∧ _) := HH6.out.done (.bool r) (.int .i64 z)
  refine bodyPost_ret (v := .agg #[.bool r, .int .i64 z]) (by simp [results, Try.results81, go_sem, z0, z1]) rfl ?_
  unfold LookAns
  rw [HS.out]
  refine ⟨rfl, .slice ao1 (xs.length + 1) cp1, ?_, HF.out.2⟩
  rw [show addR xs key = xs ++ [key] from if_neg HL.out.2.1]
  exact HF.out.1
theorem look_is (L : Prs) (b rb mb : Nat) (xs : List Int) (vr : Value) (key : Int) (w : World) (h : Looks w b rb mb L xs vr) (hrs : Rises L) (hn : L.length ≤ 1000) (hk : 0 ≤ key ∧ key ≤ 199) (hx : xs.length ≤ 1000) :
    Calls Try.prog 81 #[.pointer (some ⟨b, 0, none⟩), .int .i64 key] w (LookAns w b rb mb L xs vr key) := by
  by_cases hin : key ∈ xs
  · exact look_old L b rb mb xs vr key w h hk hin
  · exact look_new L b rb mb xs vr key w h hrs hn hk hx hin
end Go.Proofs.Ytegfpgdipmfgfaa

namespace Go.Proofs.Ytegfpgdipmfgfaa
open Go.RowKit Go.Maps

theorem run_mapL (w : World) : (Instr.makeMap 98 none).run Try.prog w = .ok (.map (some w.heap.size)) (w.alloc (.map #[] 0)) := by
  first | kernel_rfl | rfl
set_option maxRecDepth 100000 in
set_option maxHeartbeats 2000000 in
theorem lookAt_is (L : Prs) (v : Value) (B : Nat) (w : World) (h : Row w B 2 L.length (rowL L) v) (hr : Rises L) (hn : L.length ≤ 800) :
    Calls Try.prog 38 #[v] w fun e w' => ∃ b rb mb, e = .returned (.pointer (some ⟨b, 0, none⟩)) ∧ Looks w' b rb mb L [] (.slice none 0 0) ∧ w.heap.size ≤ rb ∧ Below w.heap.size w w' := by
  have H : Hid (Row w B 2 L.length (rowL L) v ∧ Rises L) := ⟨h, hr⟩
  have hmk := fun w => run_mapL w
  clear h hr
  go_enter Try.func38, Try.ntmps38
  go_wp2_with fail
  refine (filled_any L v B _ H.out.1 H.out.2 hn).mono ?_
  rintro e w1 ⟨rb, rfl, hrb, hris, q1⟩
  have H1 : Hid (Ris w1 rb L ∧ w.heap.size ≤ rb ∧ Below w.heap.size w w1) := ⟨hris, hrb, q1⟩
  clear hris hrb q1 H
  go_wp2
  go_ret
  have hb2 : Below w1.heap.size w1 ((w1.alloc (.map #[] 0)).alloc (.cells #[.pointer (some ⟨rb, 0, none⟩), .map (some w1.heap.size), .slice none 0 0] 100)) := (below_alloc _ _).alloc (by simp) _
  have hz := Blk3.new (w1.alloc (.map #[] 0)) (.pointer (some ⟨rb, 0, none⟩)) (.map (some w1.heap.size)) (.slice none 0 0) 100
  rw [World.size_alloc] at hz
  obtain ⟨v0, r1, r2⟩ := H1.out.1
  refine ⟨w1.heap.size + 1, rb, w1.heap.size, rfl, ⟨hz, ⟨v0, r1.later hb2, r2.later hb2, fun k hk => (own_in r2 k hk).2⟩, ((SM.made w1).later (below_alloc _ _)).congr (fun x => rfl), Ints.nil _ _, r1.lt, Nat.lt_succ_self _⟩, H1.out.2.1, H1.out.2.2.trans (hb2.mono H1.out.2.2.size)⟩
/-- Whether an inode's value is that of a directory. -/
def dirB (L : Prs) (a : Int) : Bool := (lookF L (kI a)).2 == 1000
theorem field_sight1 (h : Bool) (v : Int) (w : World) : (Instr.field 110 (.agg #[.bool h, .int .i64 v]) 1).run Try.prog w = .ok (.int .i64 v) w := by kernel_rfl
set_option maxRecDepth 100000 in
set_option maxHeartbeats 2000000 in
theorem isDir_is (L : Prs) (b rb mb : Nat) (xs : List Int) (vr : Value) (a : Int) (w : World) (h : Looks w b rb mb L xs vr) (hrs : Rises L) (hn : L.length ≤ 1000) (ha : 0 ≤ a ∧ a ≤ 9) (hx : xs.length ≤ 1000) :
    Calls Try.prog 61 #[.pointer (some ⟨b, 0, none⟩), .int .i64 a] w fun e w' => e = .returned (.bool (dirB L a)) ∧ ∃ vr', Looks w' b rb mb L (addR xs (kI a)) vr' ∧ Keeps w w' b mb vr vr' := by
  have H : Hid (Looks w b rb mb L xs vr ∧ Rises L ∧ (0 ≤ a ∧ a ≤ 9)) := ⟨h, hrs, ha⟩
  have fs := fun h v w => field_sight1 h v w
  clear h hrs ha
  go_enter Try.func61, Try.ntmps61
  go_wp2_with fail
  refine (inodeKey_is a H.out.2.2 _).mono ?_
  rintro e w1 ⟨rfl, q1⟩
  have H1 : Hid (Looks w1 b rb mb L xs vr ∧ Keeps w w1 b mb vr vr) := ⟨H.out.1.later q1, Keeps.below _ _ _ q1⟩
  clear q1
  go_wp2_with fail
  refine (look_is L b rb mb xs vr (kI a) _ H1.out.1 H.out.2.1 hn (by have := H.out.2.2; unfold kI; omega) hx).mono ?_
  rintro e w2 ⟨rfl, vr', l2, k2⟩
  have H2 : Hid (Looks w2 b rb mb L (addR xs (kI a)) vr' ∧ Keeps w w2 b mb vr vr') := ⟨l2, H1.out.2.trans k2⟩
  clear l2 k2 H1
  go_wp2
  go_ret
  exact ⟨rfl, vr', H2.out.1, H2.out.2⟩
/-- What IsFsDir answers. -/
def isDirF (n : Nat) (F : Nat → Int) (a : Int) : Bool := decide (pairsF F n 0 = 0) && (decide (0 ≤ a ∧ a ≤ 9) && dirB (listOf F n) a)
set_option maxRecDepth 100000 in
set_option maxHeartbeats 2000000 in
theorem l13Dir_is (L : Prs) (v : Value) (B : Nat) (a : Int) (w : World) (h : Row w B 2 L.length (rowL L) v) (hn : L.length ≤ 1048576) (ha : 0 ≤ a ∧ a ≤ 9) :
    Calls Try.prog 60 #[v, .int .i64 a] w fun e w' => e = .returned (.bool (dirB L a)) ∧ w' = w := by
  have H : Hid (Row w B 2 L.length (rowL L) v ∧ (0 ≤ a ∧ a ≤ 9)) := ⟨h, ha⟩
  obtain ⟨s, hs⟩ : ∃ s, lookF L (kI a) = s := ⟨_, rfl⟩
  obtain ⟨r, z⟩ := s
  have HS : Hid (lookF L (kI a) = (r, z)) := hs
  have HZ : Hid (r = false → z = 0) := fun e => by
    subst e
    unfold lookF at hs
    split at hs
    · simp at hs
    · simp at hs; exact hs.symm
  unfold dirB
  rw [hs]
  clear h ha hs
  go_enter Try.func60, Try.ntmps60
  go_wp2_with fail
  refine (ofI_is a H.out.2 _).mono ?_
  rintro e w9 ⟨rfl, hw9⟩
  obtain rfl := hw9.symm
  go_wp2_with fail
  refine (l11Value_any L v B (kI a) _ H.out.1 hn).mono ?_
  rintro e w9 ⟨rfl, hw9⟩
  obtain rfl := hw9.symm
  rw [HS.out]
  cases r with
  | true =>
    go_wp2
    go_ret
    exact ⟨rfl, rfl⟩
  | false =>
    obtain rfl := HZ.out rfl
    go_wp2
    go_ret
    exact ⟨rfl, rfl⟩
set_option maxRecDepth 100000 in
set_option maxHeartbeats 2000000 in
theorem specIsDir_is (y : Value) (B n : Nat) (F : Nat → Int) (a : Int) (r : Bool) (w : World) (h : Row w B 2 n F y) (hn : n ≤ 1048576) (hr : isDirF n F a = r) :
    Calls Try.prog 27 #[y, .int .i64 a] w fun e w' => e = .returned (.bool r) ∧ Below w.heap.size w w' := by
  have H : Hid (Row w B 2 n F y) := h
  clear h
  unfold isDirF at hr
  by_cases h1 : pairsF F n 0 = 0
  case neg =>
    rw [decide_eq_false h1] at hr
    obtain ⟨f, hf⟩ : ∃ f, pairsF F n 0 = f := ⟨_, rfl⟩
    have HF : Hid (pairsF F n 0 = f) := hf
    have dd : (f == 0) = false := beq_eq_false_iff_ne.2 (by rw [← hf]; exact h1)
    simp only [Bool.false_and] at hr
    subst hr
    clear h1 hf
    go_enter Try.func27, Try.ntmps27
    go_wp2_with fail
    refine (specPairs_any _ B n F _ H.out hn).mono ?_
    rintro e w1 ⟨rfl, q1⟩
    rw [HF.out]
    have HB : Hid (Below w.heap.size w w1) := q1
    clear q1
    go_wp2
    go_ret
    exact ⟨rfl, HB.out⟩
  have HF : Hid (pairsF F n 0 = 0) := h1
  rw [decide_eq_true h1, Bool.true_and] at hr
  by_cases h2 : 0 ≤ a ∧ a ≤ 9
  case neg =>
    have D : Hid (decide (0 ≤ a ∧ a ≤ 9) = false) := decide_eq_false h2
    rw [decide_eq_false h2, Bool.false_and] at hr
    subst hr
    clear h1 h2
    go_enter Try.func27, Try.ntmps27
    go_wp2_with fail
    refine (specPairs_any _ B n F _ H.out hn).mono ?_
    rintro e w1 ⟨rfl, q1⟩
    rw [HF.out]
    have HB : Hid (Below w.heap.size w w1) := q1
    clear q1
    go_wp2_with fail
    refine (inodeS_is _ _ D.out _).mono ?_
    rintro e w9 ⟨rfl, hw9⟩
    obtain rfl := hw9.symm
    go_wp2
    go_ret
    exact ⟨rfl, HB.out⟩
  have D : Hid (decide (0 ≤ a ∧ a ≤ 9) = true) := decide_eq_true h2
  rw [decide_eq_true h2, Bool.true_and] at hr
  have HD : Hid (dirB (listOf F n) a = r ∧ (0 ≤ a ∧ a ≤ 9)) := ⟨hr, h2⟩
  clear h1 h2 hr
  go_enter Try.func27, Try.ntmps27
  go_wp2_with fail
  refine (specPairs_any _ B n F _ H.out hn).mono ?_
  rintro e w1 ⟨rfl, q1⟩
  rw [HF.out]
  have HB : Hid (Below w.heap.size w w1) := q1
  clear q1
  go_wp2_with fail
  refine (inodeS_is _ _ D.out _).mono ?_
  rintro e w9 ⟨rfl, hw9⟩
  obtain rfl := hw9.symm
  go_wp2_with fail
  refine (l13Dir_is (listOf F n) _ B a _ (row_list (H.out.later HB.out)) (by rw [listOf_length]; exact hn) HD.out.2).mono ?_
  rintro e w9 ⟨rfl, hw9⟩
  obtain rfl := hw9.symm
  rw [HD.out.1]
  have HB2 := HB
  go_wp2
  go_ret
  exact ⟨rfl, HB2.out⟩
set_option maxRecDepth 100000 in
set_option maxHeartbeats 2000000 in
theorem implIsDir_is (y : Value) (B n : Nat) (F : Nat → Int) (a : Int) (r : Bool) (w : World) (h : Row w B 2 n F y) (hn : n ≤ 1048576) (hr : isDirF n F a = r) :
    Calls Try.prog 28 #[y, .int .i64 a] w fun e w' => e = .returned (.bool r) ∧ Below w.heap.size w w' := by
  have H : Hid (Row w B 2 n F y) := h
  clear h
  unfold isDirF at hr
  by_cases h1 : pairsF F n 0 = 0
  case neg =>
    rw [decide_eq_false h1] at hr
    obtain ⟨f, hf⟩ : ∃ f, pairsF F n 0 = f := ⟨_, rfl⟩
    have HF : Hid (pairsF F n 0 = f) := hf
    have dd : (f == 0) = false := beq_eq_false_iff_ne.2 (by rw [← hf]; exact h1)
    simp only [Bool.false_and] at hr
    subst hr
    clear h1 hf
    go_enter Try.func28, Try.ntmps28
    go_wp2_with fail
    refine (implPairs_any _ B n F _ H.out hn).mono ?_
    rintro e w1 ⟨rfl, q1⟩
    rw [HF.out]
    have HB : Hid (Below w.heap.size w w1) := q1
    clear q1
    go_wp2
    go_ret
    exact ⟨rfl, HB.out⟩
  have HF : Hid (pairsF F n 0 = 0) := h1
  rw [decide_eq_true h1, Bool.true_and] at hr
  by_cases h2 : 0 ≤ a ∧ a ≤ 9
  case neg =>
    have D : Hid (decide (0 ≤ a ∧ a ≤ 9) = false) := decide_eq_false h2
    rw [decide_eq_false h2, Bool.false_and] at hr
    subst hr
    clear h1 h2
    go_enter Try.func28, Try.ntmps28
    go_wp2_with fail
    refine (implPairs_any _ B n F _ H.out hn).mono ?_
    rintro e w1 ⟨rfl, q1⟩
    rw [HF.out]
    have HB : Hid (Below w.heap.size w w1) := q1
    clear q1
    go_wp2_with fail
    refine (isInodeT_is _ _ D.out _).mono ?_
    rintro e w9 ⟨rfl, hw9⟩
    obtain rfl := hw9.symm
    go_wp2
    go_ret
    exact ⟨rfl, HB.out⟩
  have D : Hid (decide (0 ≤ a ∧ a ≤ 9) = true) := decide_eq_true h2
  rw [decide_eq_true h2, Bool.true_and] at hr
  have HD : Hid (dirB (listOf F n) a = r ∧ (0 ≤ a ∧ a ≤ 9)) := ⟨hr, h2⟩
  clear h1 h2 hr
  go_enter Try.func28, Try.ntmps28
  go_wp2_with fail
  refine (implPairs_any _ B n F _ H.out hn).mono ?_
  rintro e w1 ⟨rfl, q1⟩
  rw [HF.out]
  have HB : Hid (Below w.heap.size w w1) := q1
  clear q1
  go_wp2_with fail
  refine (isInodeT_is _ _ D.out _).mono ?_
  rintro e w9 ⟨rfl, hw9⟩
  obtain rfl := hw9.symm
  go_wp2_with fail
  refine (lookAt_is (listOf F n) _ B _ (row_list (H.out.later HB.out)) (pairs_rise HF.out).1 (by rw [listOf_length]; have := (pairs_rise HF.out).2; omega)).mono ?_
  rintro e w2 ⟨b, rb, mb, rfl, l2, hrb, q2⟩
  have H2 : Hid (Looks w2 b rb mb (listOf F n) [] (.slice none 0 0) ∧ w1.heap.size ≤ rb ∧ Below w.heap.size w w2) := ⟨l2, hrb, HB.out.trans (q2.mono HB.out.size)⟩
  clear l2 hrb q2
  go_wp2_with fail
  refine (isDir_is (listOf F n) b rb mb [] _ a _ H2.out.1 (pairs_rise HF.out).1 (by rw [listOf_length]; have := (pairs_rise HF.out).2; omega) HD.out.2 (Nat.zero_le _)).mono ?_
  rintro e w3 ⟨rfl, vr, l3, k3⟩
  rw [HD.out.1]
  have HB2 : Hid (Below w.heap.size w w3) := H2.out.2.2.trans (k3.toBelow H2.out.2.2.size (by have := H2.out.1.2.2.2.2; have := H2.out.2.1; have := HB.out.size; omega) (by have := H2.out.1.2.2.2.2; have := H2.out.2.1; have := HB.out.size; omega) (fun k hk => by cases hk))
  clear l3 k3
  go_wp2
  go_ret
  exact ⟨rfl, HB2.out⟩
set_option maxRecDepth 100000 in
set_option maxHeartbeats 2000000 in
theorem isFsDir_walk (v : Value) (n : Nat) (F : Nat → Int) (a : Int) (w : World) (h : Row w 0 2 n F v) (hn : n ≤ 9223372036854775807) (_ : ∀ p, (Lit.int .i64 (F p)).wf = true) (_ : (Lit.int .i64 a).wf = true) :
    Calls Try.prog 7 #[v, .int .i64 a] w fun e w' => e = .returned (.bool true) ∧ Below w.heap.size w w' := by
  obtain ⟨ao, cp, rfl⟩ := h.form
  have H : Hid (Row w 0 2 n F (.slice ao n cp)) := h
  clear h
  by_cases hs : (1048576 : Int) < n
  · go_enter Try.func7, Try.ntmps7
    go_wp2_with fail
    refine (szPairS_no _ _ _ _ _ hs (by omega) (by omega) hn).mono ?_
    rintro e w1 ⟨rfl, rfl⟩
    go_wp2
    go_ret
    exact ⟨rfl, Below.refl _ _⟩
  have hb : n ≤ 1048576 := by omega
  have dz : decide ((1048576 : Int) - n < 0) = false := decide_eq_false (by omega)
  clear hs
  obtain ⟨r, hr⟩ : ∃ r, isDirF n F a = r := ⟨_, rfl⟩
  have HA : Hid (isDirF n F a = r) := hr
  have dne : (r != r) = false := by cases r <;> rfl
  clear hr
  go_enter Try.func7, Try.ntmps7
  go_wp2_with fail
  refine (szPairS_ok _ _ _ _ _ (by omega) (by omega)).mono ?_
  rintro e w1 ⟨rfl, hw1⟩
  obtain rfl := hw1.symm
  go_wp2_with fail
  refine (toPairS_any _ 0 n F _ H.out hb).mono ?_
  rintro e w2 ⟨u2, rfl, r2, _, q2⟩
  have Q2 : Hid (Below w.heap.size w w2) := q2
  have R2 : Hid (Row w2 0 2 n F u2) := r2.mono (Nat.zero_le _)
  clear r2 q2
  go_wp2_with fail
  refine (specIsDir_is _ 0 n F a r _ R2.out hb HA.out).mono ?_
  rintro e w3 ⟨rfl, q3⟩
  have Q3 : Hid (Below w.heap.size w w3) := Q2.out.trans (q3.mono Q2.out.size)
  clear q3 Q2 R2
  go_wp2_with fail
  refine (toPairS_any _ 0 n F _ (H.out.later Q3.out) hb).mono ?_
  rintro e w4 ⟨u4, rfl, r4, _, q4⟩
  have Q4 : Hid (Below w.heap.size w w4) := Q3.out.trans (q4.mono Q3.out.size)
  have R4 : Hid (Row w4 0 2 n F u4) := r4.mono (Nat.zero_le _)
  clear r4 q4 Q3
  go_wp2_with fail
  refine (implIsDir_is _ 0 n F a r _ R4.out hb HA.out).mono ?_
  rintro e w55 ⟨rfl, q5⟩
  have Q5 : Hid (Below w.heap.size w w55) := Q4.out.trans (q5.mono Q4.out.size)
  have R5 : Hid (Row w55 0 2 n F u4) := R4.out.later q5
  clear q5 Q4 R4
  go_wp2_with fail
  refine (toPairS_any _ 0 n F _ (H.out.later Q5.out) hb).mono ?_
  rintro e w6 ⟨u6, rfl, r6, _, q6⟩
  have Q6 : Hid (Below w.heap.size w w6) := Q5.out.trans (q6.mono Q5.out.size)
  have R6 : Hid (Row w6 0 2 n F u4 ∧ Row w6 0 2 n F u6) := ⟨R5.out.later q6, r6.mono (Nat.zero_le _)⟩
  clear r6 q6 Q5 R5
  go_wp2_with fail
  refine (eqPairS_same _ _ 0 0 n F _ R6.out.1 R6.out.2 hb).mono ?_
  rintro e w7 ⟨rfl, q7⟩
  have Q7 : Hid (Below w.heap.size w w7) := Q6.out.trans (q7.mono Q6.out.size)
  clear q7 Q6 R6
  go_wp2
  go_ret
  exact ⟨rfl, Q7.out⟩
end Go.Proofs.Ytegfpgdipmfgfaa

