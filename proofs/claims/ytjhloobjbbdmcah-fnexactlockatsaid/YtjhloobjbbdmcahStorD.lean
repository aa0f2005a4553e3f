/-
  Own text. What LockAt answers, the program's and the model's: a code, and a new row of one lock or of none.
-/
import Derived.Test.YtjhloobjbbdmcahStorA
import Derived.Test.YtjhloobjbbdmcahStorB
import Derived.Test.YtjhloobjbbdmcahStorQ
namespace Go.Proofs.Ytjhloobjbbdmcah
open Go.RowKit

def lockIs (l : Nat → Int) (a : Int) (i : Nat) : Prop := l (i * 5) = a
set_option maxRecDepth 10000 in
set_option maxHeartbeats 2000000 in
theorem l2Lock_any (S : Sto) (b : Nat) (v0 v1 v2 : Value) (a : Int) (w : World) (h : Lies w b S v0 v1 v2) (hn : S.nl ≤ 200) :
    Calls Try.prog 33 #[.pointer (some ⟨b, 0, none⟩), .int .i64 a] w fun e w' => ∃ r : Int, e = .returned (.int .i64 r) ∧ FirstAt (lockIs S.l a) S.nl r ∧ w' = w := by
  obtain ⟨a0, c0, a1, c1, a2, c2, rfl, rfl, rfl⟩ := h.2.form
  have H : Hid (Lies w b S (.slice a0 S.nc c0) (.slice a1 S.nl c1) (.slice a2 S.nw c2)) := h
  have p0 := h.1.2.1
  have hb := h.lt
  clear h
  go_enter Try.func33, Try.ntmps33
  go_wp2
  go_loop [5] (fun i => ∃ k : Nat, k ≤ S.nl ∧ i = .int .i64 k ∧ Hid (∀ j, j < k → ¬ lockIs S.l a j)) (fun i => S.nl - (intOf i).toNat)
  case atStart => exact ⟨0, Nat.zero_le _, rfl, fun j hj => absurd hj (Nat.not_lt_zero j)⟩
  case round =>
    obtain ⟨k, hk, rfl, HS⟩ := hrel
    by_cases hlt : k < S.nl
    case neg =>
      obtain rfl : k = S.nl := by omega
      go_wp2
      go_ret
      exact ⟨_, rfl, Or.inl ⟨rfl, HS.out⟩, rfl⟩
    obtain ⟨g, o, rfl, _, hg, x0, x1, x2, x3, x4⟩ := H.out.2.2.1.at5 hlt
    obtain ⟨n0, N0⟩ : ∃ x, S.l (k * 5) = x := ⟨_, rfl⟩
    rw [N0] at x0
    by_cases h0 : n0 = a
    · have E : Hid (lockIs S.l a k) := N0.trans h0
      clear N0
      subst h0
      go_wp2
      go_ret
      exact ⟨_, rfl, Or.inr ⟨k, hlt, rfl, E.out, HS.out⟩, rfl⟩
    · have E : Hid (∀ j, j < k + 1 → ¬ lockIs S.l a j) := all_next HS.out (fun q => h0 (N0.symm.trans q))
      have d0 : (n0 == a) = false := beq_eq_false_iff_ne.2 h0
      clear N0 HS h0
      go_wp2
      go_round
      case rel => exact ⟨k + 1, by omega, by go_num, E⟩
      case measure => simp [intOf]; omega
theorem l2Lock_is (S : Sto) (b : Nat) (v0 v1 v2 : Value) (a r : Int) (w : World) (h : Lies w b S v0 v1 v2) (hn : S.nl ≤ 200) (hr : FirstAt (lockIs S.l a) S.nl r) :
    Calls Try.prog 33 #[.pointer (some ⟨b, 0, none⟩), .int .i64 a] w fun e w' => e = .returned (.int .i64 r) ∧ w' = w :=
  (l2Lock_any S b v0 v1 v2 a w h hn).mono fun e w' ⟨r', he, hr', hw⟩ => ⟨by rw [he, hr.one hr'], hw⟩
/-- A block of five cells, all zero, none frozen. -/
def Zero5 (x : World) (b : Nat) : Prop := (x.cell? ⟨b, 0, none⟩ = some (.int .i64 0) ∧ x.cell? ⟨b, 1, none⟩ = some (.int .i64 0) ∧ x.cell? ⟨b, 2, none⟩ = some (.int .i64 0) ∧ x.cell? ⟨b, 3, none⟩ = some (.int .i64 0) ∧ x.cell? ⟨b, 4, none⟩ = some (.int .i64 0)) ∧ x.frozen? ⟨b, 0, none⟩ = false ∧ x.frozen? ⟨b, 1, none⟩ = false ∧ x.frozen? ⟨b, 2, none⟩ = false ∧ x.frozen? ⟨b, 3, none⟩ = false ∧ x.frozen? ⟨b, 4, none⟩ = false
theorem Zero5.later {x x' : World} {b : Nat} (h : Zero5 x b) (hb : Below x.heap.size x x') : Zero5 x' b := by
  have hl : b < x.heap.size := World.block_lt_of_cell? x _ h.1.1
  obtain ⟨⟨h0, h1, h2, h3, h4⟩, f0, f1, f2, f3, f4⟩ := h
  exact ⟨⟨(hb.cell (p := ⟨b, 0, none⟩) hl).trans h0, (hb.cell (p := ⟨b, 1, none⟩) hl).trans h1, (hb.cell (p := ⟨b, 2, none⟩) hl).trans h2, (hb.cell (p := ⟨b, 3, none⟩) hl).trans h3, (hb.cell (p := ⟨b, 4, none⟩) hl).trans h4⟩,
    (hb.frozen (p := ⟨b, 0, none⟩) hl).trans f0, (hb.frozen (p := ⟨b, 1, none⟩) hl).trans f1, (hb.frozen (p := ⟨b, 2, none⟩) hl).trans f2, (hb.frozen (p := ⟨b, 3, none⟩) hl).trans f3, (hb.frozen (p := ⟨b, 4, none⟩) hl).trans f4⟩
theorem Zero5.new (w : World) (t : TypeId) : Zero5 (w.alloc (.cells #[.int .i64 0, .int .i64 0, .int .i64 0, .int .i64 0, .int .i64 0] t)) w.heap.size := by
  refine ⟨⟨World.cell?_alloc_mark w _ _ _ 0, World.cell?_alloc_mark w _ _ _ 1, World.cell?_alloc_mark w _ _ _ 2, World.cell?_alloc_mark w _ _ _ 3, World.cell?_alloc_mark w _ _ _ 4⟩, ?_, ?_, ?_, ?_, ?_⟩ <;> simp
/-- What lockOf tells: the first lock of a key, or none. -/
def LockTold (nl : Nat) (l : Nat → Int) (key : Int) (v : Value) : Prop :=
  (∃ i, i < nl ∧ lockIs l key i ∧ (∀ j, j < i → ¬ lockIs l key j) ∧ v = .tuple #[.agg #[.int .i64 (l (i * 5)), .int .i64 (l (i * 5 + 1)), .int .i64 (l (i * 5 + 2)), .int .i64 (l (i * 5 + 3)), .int .i64 (l (i * 5 + 4))], .bool true]) ∨
  ((∀ i, i < nl → ¬ lockIs l key i) ∧ v = .tuple #[.agg #[.int .i64 0, .int .i64 0, .int .i64 0, .int .i64 0, .int .i64 0], .bool false])
set_option maxRecDepth 100000 in
set_option maxHeartbeats 2000000 in
theorem lockOf_any (B b N : Nat) (m : Int → Int → Option Int) (nl : Nat) (l : Nat → Int) (nw : Nat) (k : Nat → Int) (g : Nat) (u1 u2 : Value) (key : Int) (w : World) (h : Cols w B b N m nl l nw k g u1 u2) (hn : nl ≤ 200) :
    Calls Try.prog 39 #[.pointer (some ⟨b, 0, none⟩), .int .i64 key] w fun e w' => ∃ v, e = .returned v ∧ LockTold nl l key v ∧ Below w.heap.size w w' := by
  obtain ⟨a1, c1, rfl⟩ := h.2.2.2.2.1.form
  have H : Hid (Row w B 5 nl l (.slice a1 nl c1)) := h.2.2.2.2.1.row.1
  have p1 := h.2.2.1.1.2.1
  have hb := h.2.2.1.lt
  clear h
  go_enter Try.func39, Try.ntmps39
  go_wp2
  clear p1
  go_loopw [13] (fun i wr => ∃ q : Nat, q ≤ nl ∧ i = .int .i64 q ∧ Hid (∀ j, j < q → ¬ lockIs l key j) ∧ Hid (Below w.heap.size w wr ∧ Zero5 wr w.heap.size)) (fun i _ => nl - (intOf i).toNat)
  case atStart => exact ⟨0, Nat.zero_le _, rfl, fun j hj => absurd hj (Nat.not_lt_zero j), below_alloc _ _, Zero5.new w _⟩
  case round =>
    obtain ⟨q, hq, rfl, HS, HB⟩ := hrel
    by_cases hlt : q < nl
    case neg =>
      obtain rfl : q = nl := by omega
      obtain ⟨⟨t0, t1, t2, t3, t4⟩, f0, f1, f2, f3, f4⟩ := HB.out.2
      go_wp2
      refine bodyPost_ret (v := .tuple #[.agg #[.int .i64 0, .int .i64 0, .int .i64 0, .int .i64 0, .int .i64 0], .bool false]) (by simp [results, Try.results39, go_sem, t0, t1, t2, t3, t4]) rfl ⟨_, rfl, Or.inr ⟨HS.out, rfl⟩, ?_⟩
      exact ((((HB.out.1.setCell (Nat.le_refl _) _).setCell (Nat.le_refl _) _).setCell (Nat.le_refl _) _).setCell (Nat.le_refl _) _).setCell (Nat.le_refl _) _
    obtain ⟨g', o, rfl, _, hg, x0, x1, x2, x3, x4⟩ := (H.out.later HB.out.1).at5 hlt
    obtain ⟨n0, N0⟩ : ∃ x, l (q * 5) = x := ⟨_, rfl⟩
    rw [N0] at x0
    obtain ⟨n1, N1⟩ : ∃ x, l (q * 5 + 1) = x := ⟨_, rfl⟩
    rw [N1] at x1
    obtain ⟨n2, N2⟩ : ∃ x, l (q * 5 + 2) = x := ⟨_, rfl⟩
    rw [N2] at x2
    obtain ⟨n3, N3⟩ : ∃ x, l (q * 5 + 3) = x := ⟨_, rfl⟩
    rw [N3] at x3
    obtain ⟨n4, N4⟩ : ∃ x, l (q * 5 + 4) = x := ⟨_, rfl⟩
    rw [N4] at x4
    have hZ := HB.out.2.later (below_alloc wr (.cells #[.int .i64 n0, .int .i64 n1, .int .i64 n2, .int .i64 n3, .int .i64 n4] 60))
    have hB2 := HB.out.1.alloc HB.out.1.size (.cells #[.int .i64 n0, .int .i64 n1, .int .i64 n2, .int .i64 n3, .int .i64 n4] 60)
    have NN : Hid (l (q * 5) = n0 ∧ l (q * 5 + 1) = n1 ∧ l (q * 5 + 2) = n2 ∧ l (q * 5 + 3) = n3 ∧ l (q * 5 + 4) = n4) := ⟨N0, N1, N2, N3, N4⟩
    by_cases h0 : n0 = key
    · have E : Hid (lockIs l key q) := N0.trans h0
      have hne : ¬ wr.heap.size = w.heap.size := fun e => by have := World.block_lt_of_cell? wr _ HB.out.2.1.1; simp at this; omega
      obtain ⟨⟨t0, t1, t2, t3, t4⟩, f0, f1, f2, f3, f4⟩ := hZ
      clear N0 N1 N2 N3 N4 HB
      subst h0
      go_wp2
      refine bodyPost_ret (v := .tuple #[.agg #[.int .i64 n0, .int .i64 n1, .int .i64 n2, .int .i64 n3, .int .i64 n4], .bool true]) (by simp [results, Try.results39, go_sem, t0, t1, t2, t3, t4]) rfl ⟨_, rfl, Or.inl ⟨q, hlt, E.out, HS.out, by rw [NN.out.1, NN.out.2.1, NN.out.2.2.1, NN.out.2.2.2.1, NN.out.2.2.2.2]⟩, ?_⟩
      exact ((((hB2.setCell (Nat.le_refl _) _).setCell (Nat.le_refl _) _).setCell (Nat.le_refl _) _).setCell (Nat.le_refl _) _).setCell (Nat.le_refl _) _
    · have E : Hid (∀ j, j < q + 1 → ¬ lockIs l key j) := all_next HS.out (fun e => h0 (N0.symm.trans e))
      have HE : Hid (Below w.heap.size w (wr.alloc (.cells #[.int .i64 n0, .int .i64 n1, .int .i64 n2, .int .i64 n3, .int .i64 n4] 60)) ∧ Zero5 (wr.alloc (.cells #[.int .i64 n0, .int .i64 n1, .int .i64 n2, .int .i64 n3, .int .i64 n4] 60)) w.heap.size) := ⟨hB2, hZ⟩
      have d0 : (n0 == key) = false := beq_eq_false_iff_ne.2 h0
      clear N0 N1 N2 N3 N4 NN HS h0 hZ hB2 HB
      go_wp2
      go_roundw
      case rel => exact ⟨q + 1, by omega, by go_num, E, HE⟩
      case measure => simp [intOf]; omega
theorem row_one5 (w : World) (x0 x1 x2 x3 x4 : Int) (t : TypeId) (F : Nat → Int) (h0 : F 0 = x0) (h1 : F 1 = x1) (h2 : F 2 = x2) (h3 : F 3 = x3) (h4 : F 4 = x4) :
    Row (w.alloc (.cells #[.int .i64 x0, .int .i64 x1, .int .i64 x2, .int .i64 x3, .int .i64 x4] t)) w.heap.size 5 1 F (.slice (some ⟨w.heap.size, 0, none⟩) 1 1) ∧ Free (w.alloc (.cells #[.int .i64 x0, .int .i64 x1, .int .i64 x2, .int .i64 x3, .int .i64 x4] t)) (1 * 5) (.slice (some ⟨w.heap.size, 0, none⟩) 1 1) := by
  refine ⟨⟨_, _, rfl, fun _ => ⟨_, _, rfl, Nat.le_refl _, by simp, fun p hp => ?_⟩⟩, ?_⟩
  · rw [Nat.zero_add]
    match p, hp with
    | 0, _ => rw [h0]; exact World.cell?_alloc_mark w _ _ _ 0
    | 1, _ => rw [h1]; exact World.cell?_alloc_mark w _ _ _ 1
    | 2, _ => rw [h2]; exact World.cell?_alloc_mark w _ _ _ 2
    | 3, _ => rw [h3]; exact World.cell?_alloc_mark w _ _ _ 3
    | 4, _ => rw [h4]; exact World.cell?_alloc_mark w _ _ _ 4
  · intro g o n c hv p hp
    simp only [Value.slice.injEq, Option.some.injEq, Addr.mk.injEq] at hv
    obtain ⟨⟨rfl, rfl, _⟩, _, _⟩ := hv
    simp
/-- What LockAt answers: a code, and a row of one lock or of none. -/
def LockAns (S : Sto) (key c : Int) (n : Nat) (F : Nat → Int) : Prop :=
  (askF S key ≠ 0 ∧ c = askF S key ∧ n = 0) ∨ (askF S key = 0 ∧ (∀ i, i < S.nl → ¬ lockIs S.l key i) ∧ c = 4 ∧ n = 0) ∨
  (askF S key = 0 ∧ ∃ i, i < S.nl ∧ lockIs S.l key i ∧ (∀ j, j < i → ¬ lockIs S.l key j) ∧ c = 0 ∧ n = 1 ∧ F = fun p => S.l (i * 5 + p))
theorem LockAns.get (S : Sto) (key : Int) : ∃ c n F, n ≤ 1000 ∧ LockAns S key c n F := by
  by_cases hz : askF S key = 0
  · obtain ⟨r, hr⟩ := FirstAt.get (lockIs S.l key) S.nl
    rcases hr with ⟨_, h⟩ | ⟨i, hi, _, h1, h2⟩
    · exact ⟨4, 0, fun _ => 0, by omega, Or.inr (Or.inl ⟨hz, h, rfl, rfl⟩)⟩
    · exact ⟨0, 1, _, by omega, Or.inr (Or.inr ⟨hz, i, hi, h1, h2, rfl, rfl, rfl⟩)⟩
  · exact ⟨_, 0, fun _ => 0, by omega, Or.inl ⟨hz, rfl, rfl⟩⟩
theorem row_none (w : World) (B m : Nat) (F : Nat → Int) : Row w B m 0 F (.slice none 0 0) ∧ Free w (0 * m) (.slice none 0 0) := ⟨⟨_, _, rfl, fun q => absurd q (Nat.lt_irrefl 0)⟩, by rw [Nat.zero_mul]; exact Free.of0 _ _⟩
set_option maxRecDepth 100000 in
set_option maxHeartbeats 2000000 in
theorem implLockAt_is (S : Sto) (v0 v1 v2 : Value) (key c : Int) (n : Nat) (F : Nat → Int) (B : Nat) (w : World) (h : St w B S v0 v1 v2) (hA : LockAns S key c n F) :
    Calls Try.prog 11 #[.agg #[v0, v1, v2], .int .i64 key] w (ResRow 5 w c n F) := by
  obtain ⟨a0, c0, a1, c1, a2, c2, rfl, rfl, rfl⟩ := h.form
  have HE : Hid (CallEnv w B S (.slice a0 S.nc c0) (.slice a1 S.nl c1) (.slice a2 S.nw c2) (.int .i64 0) (.slice none 0 0) ((w.alloc (.cells #[.slice a0 S.nc c0, .slice a1 S.nl c1, .slice a2 S.nw c2] 35)).alloc (.cells #[.int .i64 0, .slice none 0 0] 30))) := CallEnv.new h _ _ _ _
  clear h
  unfold ResRow
  rcases hA with ⟨hz, rfl, rfl⟩ | ⟨hz, hno, rfl, rfl⟩ | ⟨hz, i, hi, hp, hq, rfl, rfl, rfl⟩
  · obtain ⟨f, hf⟩ : ∃ f, askF S key = f := ⟨_, rfl⟩
    have HF : Hid (askF S key = f) := hf
    have hfn : (f == 0) = false := beq_eq_false_iff_ne.2 (by rw [← hf]; exact hz)
    rw [hf]
    clear hz hf
    go_enter Try.func11, Try.ntmps11
    go_wp2_with fail
    refine (askFault_any S _ _ _ key B _ HE.out.2.2.1).mono ?_
    rw [HF.out]
    rintro e w1 ⟨rfl, q1⟩
    have HE : Hid (CallEnv w B S (.slice a0 S.nc c0) (.slice a1 S.nl c1) (.slice a2 S.nw c2) (.int .i64 0) (.slice none 0 0) w1) := HE.out.later q1
    obtain ⟨⟨⟨p0, p1, p2⟩, _⟩, ⟨⟨r0, r1⟩, f0, f1⟩, _⟩ := HE.out
    clear q1
    go_wp2
    refine bodyPost_ret (v := .agg #[.int .i64 f, .slice none 0 0]) (by simp [results, Try.results11, go_sem, r0, r1]) rfl ⟨none, 0, rfl, (row_none _ _ _ _).1, (row_none _ w.heap.size _ F).2, (HE.out.2.2.2.setCell (Nat.le_succ _) _).setCell (Nat.le_succ _) _⟩
  · have Z := storeF_zero (askF_zero hz).1
    have HZ : Hid (scan (cellF S.c) S.nc = 0 ∧ (S.nc ≤ 200 ∧ S.nl ≤ 200 ∧ S.nw ≤ 200)) := ⟨Z.2.1, Z.1⟩
    have HA : Hid (askF S key = 0) := hz
    have HN : Hid (∀ i, i < S.nl → ¬ lockIs S.l key i) := hno
    clear Z hz hno
    go_enter Try.func11, Try.ntmps11
    go_wp2_with fail
    refine (askFault_any S _ _ _ key B _ HE.out.2.2.1).mono ?_
    rw [HA.out]
    rintro e w1 ⟨rfl, q1⟩
    have HE : Hid (CallEnv w B S (.slice a0 S.nc c0) (.slice a1 S.nl c1) (.slice a2 S.nw c2) (.int .i64 0) (.slice none 0 0) w1) := HE.out.later q1
    obtain ⟨⟨⟨p0, p1, p2⟩, _⟩, ⟨⟨r0, r1⟩, f0, f1⟩, _⟩ := HE.out
    clear q1
    go_wp2_with fail
    refine (columnsOf_any S B _ _ _ _ HE.out.2.2.1 HZ.out.2.1 HZ.out.2.2.1 HZ.out.2.2.2 HZ.out.1).mono ?_
    rintro e w2 ⟨b, g, u1, u2, rfl, hC, q1⟩
    clear p0 p1 p2 r0 r1 f0 f1
    have HE : Hid (CallEnv w B S (.slice a0 S.nc c0) (.slice a1 S.nl c1) (.slice a2 S.nw c2) (.int .i64 0) (.slice none 0 0) w2) := HE.out.later q1
    have HC := hC
    clear q1 hC
    go_wp2_with fail
    refine (lockOf_any _ b _ _ S.nl S.l _ _ g u1 u2 key _ HC HZ.out.2.2.1).mono ?_
    rintro e w3 ⟨v, rfl, hT, q1⟩
    have HE : Hid (CallEnv w B S (.slice a0 S.nc c0) (.slice a1 S.nl c1) (.slice a2 S.nw c2) (.int .i64 0) (.slice none 0 0) w3) := HE.out.later q1
    obtain ⟨_, ⟨⟨r0, r1⟩, f0, f1⟩, _⟩ := HE.out
    obtain rfl : v = .tuple #[.agg #[.int .i64 0, .int .i64 0, .int .i64 0, .int .i64 0, .int .i64 0], .bool false] := by
      rcases hT with ⟨i, hi, hp, _⟩ | ⟨_, e⟩
      · exact absurd hp (HN.out i hi)
      · exact e
    have z3 := HE.out.2.1.lt
    have HE4 : Hid (Below w.heap.size w (((w3.setCell ⟨w.heap.size + 1, 0, none⟩ (.int .i64 4)).setCell ⟨w.heap.size + 1, 1, none⟩ (.slice none 0 0)).alloc (.cells #[.int .i64 0, .int .i64 0, .int .i64 0, .int .i64 0, .int .i64 0] 60))) := ((HE.out.2.2.2.setCell (Nat.le_succ _) _).setCell (Nat.le_succ _) _).alloc (by have := HE.out.2.2.2.size; simpa [World.setCell] using this) _
    have HT := ((HE.out.2.1.put (.int .i64 4) (.slice none 0 0)).alloc (.cells #[.int .i64 0, .int .i64 0, .int .i64 0, .int .i64 0, .int .i64 0] 60)).1
    clear q1 hT HC
    go_wp2
    refine bodyPost_ret (v := .agg #[.int .i64 4, .slice none 0 0]) (by simp [results, Try.results11, go_sem, HT.1, HT.2]) rfl ⟨none, 0, rfl, (row_none _ _ _ _).1, (row_none _ w.heap.size _ F).2, HE4.out⟩
  · have Z := storeF_zero (askF_zero hz).1
    have HZ : Hid (scan (cellF S.c) S.nc = 0 ∧ (S.nc ≤ 200 ∧ S.nl ≤ 200 ∧ S.nw ≤ 200)) := ⟨Z.2.1, Z.1⟩
    have HA : Hid (askF S key = 0) := hz
    have HN : Hid (lockIs S.l key i ∧ ∀ j, j < i → ¬ lockIs S.l key j) := ⟨hp, hq⟩
    clear Z hz hp hq
    obtain ⟨n0, N0⟩ : ∃ x, S.l (i * 5) = x := ⟨_, rfl⟩
    obtain ⟨n1, N1⟩ : ∃ x, S.l (i * 5 + 1) = x := ⟨_, rfl⟩
    obtain ⟨n2, N2⟩ : ∃ x, S.l (i * 5 + 2) = x := ⟨_, rfl⟩
    obtain ⟨n3, N3⟩ : ∃ x, S.l (i * 5 + 3) = x := ⟨_, rfl⟩
    obtain ⟨n4, N4⟩ : ∃ x, S.l (i * 5 + 4) = x := ⟨_, rfl⟩
    have NN : Hid (S.l (i * 5) = n0 ∧ S.l (i * 5 + 1) = n1 ∧ S.l (i * 5 + 2) = n2 ∧ S.l (i * 5 + 3) = n3 ∧ S.l (i * 5 + 4) = n4) := ⟨N0, N1, N2, N3, N4⟩
    clear N0 N1 N2 N3 N4
    go_enter Try.func11, Try.ntmps11
    go_wp2_with fail
    refine (askFault_any S _ _ _ key B _ HE.out.2.2.1).mono ?_
    rw [HA.out]
    rintro e w1 ⟨rfl, q1⟩
    have HE : Hid (CallEnv w B S (.slice a0 S.nc c0) (.slice a1 S.nl c1) (.slice a2 S.nw c2) (.int .i64 0) (.slice none 0 0) w1) := HE.out.later q1
    obtain ⟨⟨⟨p0, p1, p2⟩, _⟩, ⟨⟨r0, r1⟩, f0, f1⟩, _⟩ := HE.out
    clear q1
    go_wp2_with fail
    refine (columnsOf_any S B _ _ _ _ HE.out.2.2.1 HZ.out.2.1 HZ.out.2.2.1 HZ.out.2.2.2 HZ.out.1).mono ?_
    rintro e w2 ⟨b, g, u1, u2, rfl, hC, q1⟩
    clear p0 p1 p2 r0 r1 f0 f1
    have HE : Hid (CallEnv w B S (.slice a0 S.nc c0) (.slice a1 S.nl c1) (.slice a2 S.nw c2) (.int .i64 0) (.slice none 0 0) w2) := HE.out.later q1
    have HC := hC
    clear q1 hC
    go_wp2_with fail
    refine (lockOf_any _ b _ _ S.nl S.l _ _ g u1 u2 key _ HC HZ.out.2.2.1).mono ?_
    rintro e w3 ⟨v, rfl, hT, q1⟩
    have HE : Hid (CallEnv w B S (.slice a0 S.nc c0) (.slice a1 S.nl c1) (.slice a2 S.nw c2) (.int .i64 0) (.slice none 0 0) w3) := HE.out.later q1
    obtain ⟨_, ⟨⟨r0, r1⟩, f0, f1⟩, _⟩ := HE.out
    obtain rfl : v = .tuple #[.agg #[.int .i64 n0, .int .i64 n1, .int .i64 n2, .int .i64 n3, .int .i64 n4], .bool true] := by
      rcases hT with ⟨j, hj, hp, hq, e⟩ | ⟨h, _⟩
      · obtain rfl : j = i := by
          rcases Nat.lt_trichotomy j i with q | q | q
          · exact absurd hp (HN.out.2 j q)
          · exact q
          · exact absurd HN.out.1 (hq i q)
        rw [e, NN.out.1, NN.out.2.1, NN.out.2.2.1, NN.out.2.2.2.1, NN.out.2.2.2.2]
      · exact absurd HN.out.1 (h i hi)
    have z3 := HE.out.2.1.lt
    have z3' : w.heap.size < w3.heap.size := by omega
    have hY : ((w3.setCell ⟨w.heap.size + 1, 0, none⟩ (.int .i64 0)).setCell ⟨w.heap.size + 1, 1, none⟩ (.slice (some ⟨w3.heap.size + 1, 0, none⟩) 1 1)).heap.size = w3.heap.size := by simp [World.setCell]
    have HE4 : Hid (Below w.heap.size w ((((w3.setCell ⟨w.heap.size + 1, 0, none⟩ (.int .i64 0)).setCell ⟨w.heap.size + 1, 1, none⟩ (.slice (some ⟨w3.heap.size + 1, 0, none⟩) 1 1)).alloc (.cells #[.int .i64 n0, .int .i64 n1, .int .i64 n2, .int .i64 n3, .int .i64 n4] 60)).alloc (.cells #[.int .i64 n0, .int .i64 n1, .int .i64 n2, .int .i64 n3, .int .i64 n4] 60))) := (((HE.out.2.2.2.setCell (Nat.le_succ _) _).setCell (Nat.le_succ _) _).alloc (by have := HE.out.2.2.2.size; rw [hY]; exact this) _).alloc (by have := HE.out.2.2.2.size; rw [World.size_alloc, hY]; omega) _
    have HT := (((HE.out.2.1.put (.int .i64 0) (.slice (some ⟨w3.heap.size + 1, 0, none⟩) 1 1)).alloc (.cells #[.int .i64 n0, .int .i64 n1, .int .i64 n2, .int .i64 n3, .int .i64 n4] 60)).alloc (.cells #[.int .i64 n0, .int .i64 n1, .int .i64 n2, .int .i64 n3, .int .i64 n4] 60)).1
    have hO := row_one5 (((w3.setCell ⟨w.heap.size + 1, 0, none⟩ (.int .i64 0)).setCell ⟨w.heap.size + 1, 1, none⟩ (.slice (some ⟨w3.heap.size + 1, 0, none⟩) 1 1)).alloc (.cells #[.int .i64 n0, .int .i64 n1, .int .i64 n2, .int .i64 n3, .int .i64 n4] 60)) n0 n1 n2 n3 n4 60 (fun p => S.l (i * 5 + p)) NN.out.1 NN.out.2.1 NN.out.2.2.1 NN.out.2.2.2.1 NN.out.2.2.2.2
    rw [World.size_alloc, hY] at hO
    have HO : Hid (Row ((((w3.setCell ⟨w.heap.size + 1, 0, none⟩ (.int .i64 0)).setCell ⟨w.heap.size + 1, 1, none⟩ (.slice (some ⟨w3.heap.size + 1, 0, none⟩) 1 1)).alloc (.cells #[.int .i64 n0, .int .i64 n1, .int .i64 n2, .int .i64 n3, .int .i64 n4] 60)).alloc (.cells #[.int .i64 n0, .int .i64 n1, .int .i64 n2, .int .i64 n3, .int .i64 n4] 60)) w.heap.size 5 1 (fun p => S.l (i * 5 + p)) (.slice (some ⟨w3.heap.size + 1, 0, none⟩) 1 1) ∧ Free ((((w3.setCell ⟨w.heap.size + 1, 0, none⟩ (.int .i64 0)).setCell ⟨w.heap.size + 1, 1, none⟩ (.slice (some ⟨w3.heap.size + 1, 0, none⟩) 1 1)).alloc (.cells #[.int .i64 n0, .int .i64 n1, .int .i64 n2, .int .i64 n3, .int .i64 n4] 60)).alloc (.cells #[.int .i64 n0, .int .i64 n1, .int .i64 n2, .int .i64 n3, .int .i64 n4] 60)) (1 * 5) (.slice (some ⟨w3.heap.size + 1, 0, none⟩) 1 1)) := ⟨hO.1.mono (by omega), hO.2⟩
    clear q1 hT HC hO hY
    go_wp2
    refine bodyPost_ret (v := .agg #[.int .i64 0, .slice (some ⟨w3.heap.size + 1, 0, none⟩) 1 1]) (by simp [results, Try.results11, go_sem, HT.1, HT.2]) rfl ⟨_, _, rfl, HO.out.1, HO.out.2, HE4.out⟩
set_option maxRecDepth 100000 in
set_option maxHeartbeats 2000000 in
theorem specLockAt_is (S : Sto) (v0 v1 v2 : Value) (key c : Int) (n : Nat) (F : Nat → Int) (B : Nat) (w : World) (h : St w B S v0 v1 v2) (hA : LockAns S key c n F) :
    Calls Try.prog 9 #[.agg #[v0, v1, v2], .int .i64 key] w (ResRow 5 w c n F) := by
  obtain ⟨a0, c0, a1, c1, a2, c2, rfl, rfl, rfl⟩ := h.form
  have HE : Hid (CallEnv w B S (.slice a0 S.nc c0) (.slice a1 S.nl c1) (.slice a2 S.nw c2) (.int .i64 0) (.slice none 0 0) ((w.alloc (.cells #[.slice a0 S.nc c0, .slice a1 S.nl c1, .slice a2 S.nw c2] 35)).alloc (.cells #[.int .i64 0, .slice none 0 0] 30))) := CallEnv.new h _ _ _ _
  clear h
  unfold ResRow
  rcases hA with ⟨hz, rfl, rfl⟩ | ⟨hz, hno, rfl, rfl⟩ | ⟨hz, i, hi, hp, hq, rfl, rfl, rfl⟩
  · obtain ⟨f, hf⟩ : ∃ f, askF S key = f := ⟨_, rfl⟩
    have HF : Hid (askF S key = f) := hf
    have hfn : (f == 0) = false := beq_eq_false_iff_ne.2 (by rw [← hf]; exact hz)
    rw [hf]
    clear hz hf
    go_enter Try.func9, Try.ntmps9
    go_wp2_with fail
    refine (asked_any S w.heap.size _ _ _ key _ ⟨HE.out.1.1, HE.out.2.2.1.mono (Nat.zero_le _)⟩).mono ?_
    rw [HF.out]
    rintro e w1 ⟨rfl, q1⟩
    have HE : Hid (CallEnv w B S (.slice a0 S.nc c0) (.slice a1 S.nl c1) (.slice a2 S.nw c2) (.int .i64 0) (.slice none 0 0) w1) := HE.out.later q1
    obtain ⟨⟨⟨p0, p1, p2⟩, _⟩, ⟨⟨r0, r1⟩, f0, f1⟩, _⟩ := HE.out
    clear q1
    go_wp2
    refine bodyPost_ret (v := .agg #[.int .i64 f, .slice none 0 0]) (by simp [results, Try.results9, go_sem, r0, r1]) rfl ⟨none, 0, rfl, (row_none _ _ _ _).1, (row_none _ w.heap.size _ F).2, (HE.out.2.2.2.setCell (Nat.le_succ _) _).setCell (Nat.le_succ _) _⟩
  · have HZ : Hid (S.nl ≤ 200) := (storeF_zero (askF_zero hz).1).1.2.1
    have HA : Hid (askF S key = 0) := hz
    have HN : Hid (FirstAt (lockIs S.l key) S.nl (-1)) := Or.inl ⟨rfl, hno⟩
    clear hz hno
    go_enter Try.func9, Try.ntmps9
    go_wp2_with fail
    refine (asked_any S w.heap.size _ _ _ key _ ⟨HE.out.1.1, HE.out.2.2.1.mono (Nat.zero_le _)⟩).mono ?_
    rw [HA.out]
    rintro e w1 ⟨rfl, q1⟩
    have HE : Hid (CallEnv w B S (.slice a0 S.nc c0) (.slice a1 S.nl c1) (.slice a2 S.nw c2) (.int .i64 0) (.slice none 0 0) w1) := HE.out.later q1
    obtain ⟨⟨⟨p0, p1, p2⟩, _⟩, ⟨⟨r0, r1⟩, f0, f1⟩, _⟩ := HE.out
    clear q1
    go_wp2_with fail
    refine (l2Lock_is S w.heap.size _ _ _ key (-1) _ ⟨HE.out.1.1, HE.out.2.2.1.mono (Nat.zero_le _)⟩ HZ.out HN.out).mono ?_
    rintro e w2 ⟨rfl, rfl⟩
    go_wp2
    refine bodyPost_ret (v := .agg #[.int .i64 4, .slice none 0 0]) (by simp [results, Try.results9, go_sem, r0, r1]) rfl ⟨none, 0, rfl, (row_none _ _ _ _).1, (row_none _ w.heap.size _ F).2, (HE.out.2.2.2.setCell (Nat.le_succ _) _).setCell (Nat.le_succ _) _⟩
  · have HZ : Hid (S.nl ≤ 200) := (storeF_zero (askF_zero hz).1).1.2.1
    have HA : Hid (askF S key = 0) := hz
    have HN : Hid (FirstAt (lockIs S.l key) S.nl i) := Or.inr ⟨i, hi, rfl, hp, hq⟩
    clear hz hp hq
    obtain ⟨n0, N0⟩ : ∃ x, S.l (i * 5) = x := ⟨_, rfl⟩
    obtain ⟨n1, N1⟩ : ∃ x, S.l (i * 5 + 1) = x := ⟨_, rfl⟩
    obtain ⟨n2, N2⟩ : ∃ x, S.l (i * 5 + 2) = x := ⟨_, rfl⟩
    obtain ⟨n3, N3⟩ : ∃ x, S.l (i * 5 + 3) = x := ⟨_, rfl⟩
    obtain ⟨n4, N4⟩ : ∃ x, S.l (i * 5 + 4) = x := ⟨_, rfl⟩
    have NN : Hid (S.l (i * 5) = n0 ∧ S.l (i * 5 + 1) = n1 ∧ S.l (i * 5 + 2) = n2 ∧ S.l (i * 5 + 3) = n3 ∧ S.l (i * 5 + 4) = n4) := ⟨N0, N1, N2, N3, N4⟩
    clear N0 N1 N2 N3 N4
    go_enter Try.func9, Try.ntmps9
    go_wp2_with fail
    refine (asked_any S w.heap.size _ _ _ key _ ⟨HE.out.1.1, HE.out.2.2.1.mono (Nat.zero_le _)⟩).mono ?_
    rw [HA.out]
    rintro e w1 ⟨rfl, q1⟩
    have HE : Hid (CallEnv w B S (.slice a0 S.nc c0) (.slice a1 S.nl c1) (.slice a2 S.nw c2) (.int .i64 0) (.slice none 0 0) w1) := HE.out.later q1
    obtain ⟨⟨⟨p0, p1, p2⟩, _⟩, ⟨⟨r0, r1⟩, f0, f1⟩, _⟩ := HE.out
    clear q1
    go_wp2_with fail
    refine (l2Lock_is S w.heap.size _ _ _ key i _ ⟨HE.out.1.1, HE.out.2.2.1.mono (Nat.zero_le _)⟩ HZ.out HN.out).mono ?_
    rintro e w2 ⟨rfl, rfl⟩
    obtain ⟨g, o, rfl, _, hg, x0, x1, x2, x3, x4⟩ := HE.out.2.2.1.2.1.at5 hi
    rw [NN.out.1] at x0; rw [NN.out.2.1] at x1; rw [NN.out.2.2.1] at x2; rw [NN.out.2.2.2.1] at x3; rw [NN.out.2.2.2.2] at x4
    have hin : (i : Int) < (S.nl : Int) := by omega
    have z3 := HE.out.2.1.lt
    have hY : ((w2.setCell ⟨w.heap.size + 1, 0, none⟩ (.int .i64 0)).setCell ⟨w.heap.size + 1, 1, none⟩ (.slice (some ⟨w2.heap.size, 0, none⟩) 1 1)).heap.size = w2.heap.size := by simp [World.setCell]
    have HE4 : Hid (Below w.heap.size w (((w2.setCell ⟨w.heap.size + 1, 0, none⟩ (.int .i64 0)).setCell ⟨w.heap.size + 1, 1, none⟩ (.slice (some ⟨w2.heap.size, 0, none⟩) 1 1)).alloc (.cells #[.int .i64 n0, .int .i64 n1, .int .i64 n2, .int .i64 n3, .int .i64 n4] 60))) := ((HE.out.2.2.2.setCell (Nat.le_succ _) _).setCell (Nat.le_succ _) _).alloc (by have := HE.out.2.2.2.size; rw [hY]; exact this) _
    have HT := ((HE.out.2.1.put (.int .i64 0) (.slice (some ⟨w2.heap.size, 0, none⟩) 1 1)).alloc (.cells #[.int .i64 n0, .int .i64 n1, .int .i64 n2, .int .i64 n3, .int .i64 n4] 60)).1
    have hO := row_one5 ((w2.setCell ⟨w.heap.size + 1, 0, none⟩ (.int .i64 0)).setCell ⟨w.heap.size + 1, 1, none⟩ (.slice (some ⟨w2.heap.size, 0, none⟩) 1 1)) n0 n1 n2 n3 n4 60 (fun p => S.l (i * 5 + p)) NN.out.1 NN.out.2.1 NN.out.2.2.1 NN.out.2.2.2.1 NN.out.2.2.2.2
    rw [hY] at hO
    have HO : Hid (Row (((w2.setCell ⟨w.heap.size + 1, 0, none⟩ (.int .i64 0)).setCell ⟨w.heap.size + 1, 1, none⟩ (.slice (some ⟨w2.heap.size, 0, none⟩) 1 1)).alloc (.cells #[.int .i64 n0, .int .i64 n1, .int .i64 n2, .int .i64 n3, .int .i64 n4] 60)) w.heap.size 5 1 (fun p => S.l (i * 5 + p)) (.slice (some ⟨w2.heap.size, 0, none⟩) 1 1) ∧ Free (((w2.setCell ⟨w.heap.size + 1, 0, none⟩ (.int .i64 0)).setCell ⟨w.heap.size + 1, 1, none⟩ (.slice (some ⟨w2.heap.size, 0, none⟩) 1 1)).alloc (.cells #[.int .i64 n0, .int .i64 n1, .int .i64 n2, .int .i64 n3, .int .i64 n4] 60)) (1 * 5) (.slice (some ⟨w2.heap.size, 0, none⟩) 1 1)) := ⟨hO.1.mono (by omega), hO.2⟩
    clear hO hY
    go_wp2
    refine bodyPost_ret (v := .agg #[.int .i64 0, .slice (some ⟨w2.heap.size, 0, none⟩) 1 1]) (by simp [results, Try.results9, go_sem, HT.1, HT.2]) rfl ⟨_, _, rfl, HO.out.1, HO.out.2, HE4.out⟩
end Go.Proofs.Ytjhloobjbbdmcah
