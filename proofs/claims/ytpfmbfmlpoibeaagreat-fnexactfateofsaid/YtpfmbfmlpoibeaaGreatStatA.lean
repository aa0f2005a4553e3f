/-
  Own text. What became of a key at a start, as a plain word over the store's numbers; the program's doneOf and status, the model's l4Status.
-/
import Derived.Test.YtpfmbfmlpoibeaaGreatStorL
import Derived.Test.YtpfmbfmlpoibeaaGreatStorG
namespace Go.Proofs.YtpfmbfmlpoibeaaGreat
open Go.RowKit

theorem firstW_or (k : Nat → Int) (nw : Nat) (key start : Int) : (∀ i, ¬ firstW k nw key start i) ∨ ∃ i, firstW k nw key start i := by
  obtain ⟨r, hr⟩ := FirstAt.get (writeIs k key start) nw
  rcases hr with ⟨_, h⟩ | ⟨i, h1, _, h2, h3⟩
  · exact Or.inl fun i hi => h i hi.1 hi.2.1
  · exact Or.inr ⟨i, h1, h2, h3⟩
/-- A write that is no rollback. -/
def doneW (k : Nat → Int) (n : Nat) (key start : Int) (i : Nat) : Prop := firstW k n key start i ∧ k (i * 4 + 3) ≠ 4
theorem write_noO (S : Sto) (b oo : Nat) (v0 v1 v2 : Value) (key start : Int) (w : World) (h : LiesO w b oo S v0 v1 v2) (hn : S.nw ≤ 200) (hq : ∀ i, ¬ firstW S.k S.nw key start i) :
    Calls Tryz.prog 70 #[.pointer (some ⟨b, oo, none⟩), .int .i64 key, .int .i64 start] w fun e w' => e = .returned (.int .i64 (-1)) ∧ w' = w := by
  obtain ⟨r, hr⟩ := FirstAt.get (writeIs S.k key start) S.nw
  refine (l2Write_isO S b oo v0 v1 v2 key start r w h hn hr).mono fun e w' ⟨he, hw⟩ => ⟨?_, hw⟩
  rcases hr with ⟨rfl, _⟩ | ⟨i, h1, _, h2, h3⟩
  · exact he
  · exact absurd ⟨h1, h2, h3⟩ (hq i)
theorem write_no (S : Sto) (b : Nat) (v0 v1 v2 : Value) (key start : Int) (w : World) (h : Lies w b S v0 v1 v2) (hn : S.nw ≤ 200) (hq : ∀ i, ¬ firstW S.k S.nw key start i) :
    Calls Tryz.prog 70 #[.pointer (some ⟨b, 0, none⟩), .int .i64 key, .int .i64 start] w fun e w' => e = .returned (.int .i64 (-1)) ∧ w' = w := write_noO S b 0 v0 v1 v2 key start w h hn hq
theorem write_yesO (S : Sto) (b oo : Nat) (v0 v1 v2 : Value) (key start : Int) (i : Nat) (w : World) (h : LiesO w b oo S v0 v1 v2) (hn : S.nw ≤ 200) (hq : firstW S.k S.nw key start i) :
    Calls Tryz.prog 70 #[.pointer (some ⟨b, oo, none⟩), .int .i64 key, .int .i64 start] w fun e w' => e = .returned (.int .i64 i) ∧ w' = w :=
  l2Write_isO S b oo v0 v1 v2 key start i w h hn (Or.inr ⟨i, hq.1, rfl, hq.2.1, hq.2.2⟩)
theorem write_yes (S : Sto) (b : Nat) (v0 v1 v2 : Value) (key start : Int) (i : Nat) (w : World) (h : Lies w b S v0 v1 v2) (hn : S.nw ≤ 200) (hq : firstW S.k S.nw key start i) :
    Calls Tryz.prog 70 #[.pointer (some ⟨b, 0, none⟩), .int .i64 key, .int .i64 start] w fun e w' => e = .returned (.int .i64 i) ∧ w' = w := write_yesO S b 0 v0 v1 v2 key start i w h hn hq
/-- What became of it: 3 taken back, 2 done, 1 locked, 0 none. -/
def StatIs (nl : Nat) (l : Nat → Int) (nw : Nat) (k : Nat → Int) (key start r : Int) : Prop :=
  (∃ i, firstW k nw key start i ∧ ((k (i * 4 + 3) = 4 ∧ r = 3) ∨ (k (i * 4 + 3) ≠ 4 ∧ r = 2))) ∨
  ((∀ i, ¬ firstW k nw key start i) ∧ ((∃ i, firstL l nl key i ∧ ((l (i * 5 + 1) = start ∧ r = 1) ∨ (l (i * 5 + 1) ≠ start ∧ r = 0))) ∨ ((∀ i, i < nl → ¬ lockIs l key i) ∧ r = 0)))
theorem StatIs.get (nl : Nat) (l : Nat → Int) (nw : Nat) (k : Nat → Int) (key start : Int) : ∃ r, StatIs nl l nw k key start r := by
  rcases firstW_or k nw key start with hno | ⟨i, hi⟩
  · rcases first_or l nl key with hl | ⟨i, hi⟩
    · exact ⟨0, Or.inr ⟨hno, Or.inr ⟨hl, rfl⟩⟩⟩
    · by_cases e : l (i * 5 + 1) = start
      · exact ⟨1, Or.inr ⟨hno, Or.inl ⟨i, hi, Or.inl ⟨e, rfl⟩⟩⟩⟩
      · exact ⟨0, Or.inr ⟨hno, Or.inl ⟨i, hi, Or.inr ⟨e, rfl⟩⟩⟩⟩
  · by_cases e : k (i * 4 + 3) = 4
    · exact ⟨3, Or.inl ⟨i, hi, Or.inl ⟨e, rfl⟩⟩⟩
    · exact ⟨2, Or.inl ⟨i, hi, Or.inr ⟨e, rfl⟩⟩⟩
set_option maxRecDepth 100000 in
set_option maxHeartbeats 4000000 in
theorem doneOf_anyO (B b oo N : Nat) (m : Int → Int → Option Int) (nl : Nat) (l : Nat → Int) (nw : Nat) (k : Nat → Int) (g : Nat) (u1 u2 : Value) (key start : Int) (w : World) (h : ColsO w B b oo N m nl l nw k g u1 u2) (hn : nw ≤ 200) :
    Calls Tryz.prog 141 #[.pointer (some ⟨b, oo, none⟩), .int .i64 key, .int .i64 start] w fun e w' => ∃ v, e = .returned v ∧ Told (doneW k nw key start) k v ∧ Below w.heap.size w w' := by
  have HZ : Hid (ColsO (w.alloc (.cells #[.int .i64 0, .int .i64 0, .int .i64 0, .int .i64 0] 45)) B b oo N m nl l nw k g u1 u2) := h.later (below_alloc _ _)
  clear h
  rcases firstW_or k nw key start with hno | ⟨i, hi⟩
  · have HN : Hid (∀ i, ¬ firstW k nw key start i) := hno
    clear hno
    go_enter Tryz.func141, Tryz.ntmps141
    go_wp2_with fail
    refine (writeOf_anyO B b oo N m nl l nw k g u1 u2 key start _ HZ.out hn).mono ?_
    rintro e w1 ⟨v, rfl, hT, q1⟩
    obtain rfl : v = .tuple #[.agg #[.int .i64 0, .int .i64 0, .int .i64 0, .int .i64 0], .bool false] := by
      rcases hT with ⟨i, hi, _⟩ | ⟨_, e⟩
      · exact absurd hi (HN.out i)
      · exact e
    have Q : Hid (Blk4 w1 w.heap.size (.int .i64 0) (.int .i64 0) (.int .i64 0) (.int .i64 0) ∧ Below w.heap.size w w1) := ⟨(Blk4.new w _ _ _ _ _).later q1, (below_alloc _ _).trans (q1.mono (by simp))⟩
    obtain ⟨⟨t0, t1, t2, t3⟩, f0, f1, f2, f3⟩ := Q.out.1
    obtain ⟨⟨r0, r1, r2, r3⟩, _⟩ := (Q.out.1.put (.int .i64 0) (.int .i64 0) (.int .i64 0) (.int .i64 0)).alloc (.cells #[.int .i64 0, .int .i64 0, .int .i64 0, .int .i64 0] 45)
    have hne : ¬ w1.heap.size = w.heap.size := fun e => by have := Q.out.1.lt; omega
    have z1 := Q.out.1.lt
    clear hT q1
    go_wp2
    refine bodyPost_ret (v := .tuple #[.agg #[.int .i64 0, .int .i64 0, .int .i64 0, .int .i64 0], .bool false]) (by simp [results, Tryz.results141, go_sem, r0, r1, r2, r3]) rfl ⟨_, rfl, Or.inr ⟨fun i hi => HN.out i hi.1, rfl⟩, ?_⟩
    exact ((((Q.out.2.setCell (Nat.le_refl _) _).setCell (Nat.le_refl _) _).setCell (Nat.le_refl _) _).setCell (Nat.le_refl _) _).alloc (by simpa using Nat.le_of_lt z1) _
  · obtain ⟨n0, N0⟩ : ∃ x, k (i * 4) = x := ⟨_, rfl⟩
    obtain ⟨n1, N1⟩ : ∃ x, k (i * 4 + 1) = x := ⟨_, rfl⟩
    obtain ⟨n2, N2⟩ : ∃ x, k (i * 4 + 2) = x := ⟨_, rfl⟩
    obtain ⟨n3, N3⟩ : ∃ x, k (i * 4 + 3) = x := ⟨_, rfl⟩
    have NN : Hid (k (i * 4) = n0 ∧ k (i * 4 + 1) = n1 ∧ k (i * 4 + 2) = n2 ∧ k (i * 4 + 3) = n3) := ⟨N0, N1, N2, N3⟩
    have HI : Hid (firstW k nw key start i) := hi
    by_cases h3 : n3 = 4
    · have HN : Hid (∀ j, ¬ doneW k nw key start j) := fun j hj => by
        obtain rfl := firstW.one hj.1 hi
        exact hj.2 (N3.trans h3)
      clear N0 N1 N2 N3 hi
      subst h3
      go_enter Tryz.func141, Tryz.ntmps141
      go_wp2_with fail
      refine (writeOf_anyO B b oo N m nl l nw k g u1 u2 key start _ HZ.out hn).mono ?_
      rintro e w1 ⟨v, rfl, hT, q1⟩
      obtain rfl : v = .tuple #[.agg #[.int .i64 n0, .int .i64 n1, .int .i64 n2, .int .i64 4], .bool true] := by
        rcases hT with ⟨j, hj, e⟩ | ⟨h, _⟩
        · obtain rfl := firstW.one hj HI.out
          rw [e, NN.out.1, NN.out.2.1, NN.out.2.2.1, NN.out.2.2.2]
        · exact absurd HI.out (h _)
      have Q : Hid (Blk4 w1 w.heap.size (.int .i64 0) (.int .i64 0) (.int .i64 0) (.int .i64 0) ∧ Below w.heap.size w w1) := ⟨(Blk4.new w _ _ _ _ _).later q1, (below_alloc _ _).trans (q1.mono (by simp))⟩
      obtain ⟨⟨t0, t1, t2, t3⟩, f0, f1, f2, f3⟩ := Q.out.1
      obtain ⟨⟨r0, r1, r2, r3⟩, _⟩ := (Q.out.1.put (.int .i64 0) (.int .i64 0) (.int .i64 0) (.int .i64 0)).alloc (.cells #[.int .i64 n0, .int .i64 n1, .int .i64 n2, .int .i64 4] 45)
      have hne : ¬ w1.heap.size = w.heap.size := fun e => by have := Q.out.1.lt; omega
      have z1 := Q.out.1.lt
      clear hT q1
      go_wp2
      refine bodyPost_ret (v := .tuple #[.agg #[.int .i64 0, .int .i64 0, .int .i64 0, .int .i64 0], .bool false]) (by simp [results, Tryz.results141, go_sem, r0, r1, r2, r3]) rfl ⟨_, rfl, Or.inr ⟨HN.out, rfl⟩, ?_⟩
      exact ((((Q.out.2.setCell (Nat.le_refl _) _).setCell (Nat.le_refl _) _).setCell (Nat.le_refl _) _).setCell (Nat.le_refl _) _).alloc (by simpa using Nat.le_of_lt z1) _
    · have HD : Hid (doneW k nw key start i) := ⟨hi, by rw [N3]; exact h3⟩
      have d3 : (n3 == 4) = false := beq_eq_false_iff_ne.2 h3
      clear N0 N1 N2 N3 hi h3
      go_enter Tryz.func141, Tryz.ntmps141
      go_wp2_with fail
      refine (writeOf_anyO B b oo N m nl l nw k g u1 u2 key start _ HZ.out hn).mono ?_
      rintro e w1 ⟨v, rfl, hT, q1⟩
      obtain rfl : v = .tuple #[.agg #[.int .i64 n0, .int .i64 n1, .int .i64 n2, .int .i64 n3], .bool true] := by
        rcases hT with ⟨j, hj, e⟩ | ⟨h, _⟩
        · obtain rfl := firstW.one hj HI.out
          rw [e, NN.out.1, NN.out.2.1, NN.out.2.2.1, NN.out.2.2.2]
        · exact absurd HI.out (h _)
      have Q : Hid (Blk4 w1 w.heap.size (.int .i64 0) (.int .i64 0) (.int .i64 0) (.int .i64 0) ∧ Below w.heap.size w w1) := ⟨(Blk4.new w _ _ _ _ _).later q1, (below_alloc _ _).trans (q1.mono (by simp))⟩
      obtain ⟨⟨t0, t1, t2, t3⟩, f0, f1, f2, f3⟩ := Q.out.1
      obtain ⟨⟨r0, r1, r2, r3⟩, _⟩ := (Q.out.1.put (.int .i64 n0) (.int .i64 n1) (.int .i64 n2) (.int .i64 n3)).alloc (.cells #[.int .i64 n0, .int .i64 n1, .int .i64 n2, .int .i64 n3] 45)
      have hne : ¬ w1.heap.size = w.heap.size := fun e => by have := Q.out.1.lt; omega
      have z1 := Q.out.1.lt
      clear hT q1
      go_wp2
      refine bodyPost_ret (v := .tuple #[.agg #[.int .i64 n0, .int .i64 n1, .int .i64 n2, .int .i64 n3], .bool true]) (by simp [results, Tryz.results141, go_sem, r0, r1, r2, r3]) rfl ⟨_, rfl, Or.inl ⟨i, HD.out, by rw [NN.out.1, NN.out.2.1, NN.out.2.2.1, NN.out.2.2.2]⟩, ?_⟩
      exact ((((Q.out.2.setCell (Nat.le_refl _) _).setCell (Nat.le_refl _) _).setCell (Nat.le_refl _) _).setCell (Nat.le_refl _) _).alloc (by simpa using Nat.le_of_lt z1) _
theorem doneOf_any (B b N : Nat) (m : Int → Int → Option Int) (nl : Nat) (l : Nat → Int) (nw : Nat) (k : Nat → Int) (g : Nat) (u1 u2 : Value) (key start : Int) (w : World) (h : Cols w B b N m nl l nw k g u1 u2) (hn : nw ≤ 200) :
    Calls Tryz.prog 141 #[.pointer (some ⟨b, 0, none⟩), .int .i64 key, .int .i64 start] w fun e w' => ∃ v, e = .returned v ∧ Told (doneW k nw key start) k v ∧ Below w.heap.size w w' := doneOf_anyO B b 0 N m nl l nw k g u1 u2 key start w h hn
set_option maxRecDepth 100000 in
set_option maxHeartbeats 4000000 in
theorem status_isO (B b oo N : Nat) (m : Int → Int → Option Int) (nl : Nat) (l : Nat → Int) (nw : Nat) (k : Nat → Int) (g : Nat) (u1 u2 : Value) (key start r : Int) (w : World) (h : ColsO w B b oo N m nl l nw k g u1 u2) (hl : nl ≤ 200) (hw : nw ≤ 200) (hr : StatIs nl l nw k key start r) :
    Calls Tryz.prog 99 #[.pointer (some ⟨b, oo, none⟩), .int .i64 key, .int .i64 start] w fun e w' => e = .returned (.int .i64 r) ∧ Below w.heap.size w w' := by
  have H : Hid (ColsO w B b oo N m nl l nw k g u1 u2) := h
  clear h
  rcases hr with ⟨i, hi, ⟨h3, rfl⟩ | ⟨h3, rfl⟩⟩ | ⟨hno, ⟨j, hj, ⟨h1, rfl⟩ | ⟨h1, rfl⟩⟩ | ⟨hno2, rfl⟩⟩
  · have HD : Hid (∀ j, ¬ doneW k nw key start j) := fun j hj => by
      obtain rfl := firstW.one hj.1 hi
      exact hj.2 h3
    obtain ⟨n0, N0⟩ : ∃ x, k (i * 4) = x := ⟨_, rfl⟩
    obtain ⟨n1, N1⟩ : ∃ x, k (i * 4 + 1) = x := ⟨_, rfl⟩
    obtain ⟨n2, N2⟩ : ∃ x, k (i * 4 + 2) = x := ⟨_, rfl⟩
    obtain ⟨n3, N3⟩ : ∃ x, k (i * 4 + 3) = x := ⟨_, rfl⟩
    have NN : Hid (k (i * 4) = n0 ∧ k (i * 4 + 1) = n1 ∧ k (i * 4 + 2) = n2 ∧ k (i * 4 + 3) = n3) := ⟨N0, N1, N2, N3⟩
    have HI : Hid (firstW k nw key start i) := hi
    clear N0 N1 N2 N3 hi h3
    go_enter Tryz.func99, Tryz.ntmps99
    go_wp2_with fail
    refine (doneOf_anyO B b oo N m nl l nw k g u1 u2 key start _ H.out hw).mono ?_
    rintro e w1 ⟨v, rfl, hT, q1⟩
    obtain rfl : v = .tuple #[.agg #[.int .i64 0, .int .i64 0, .int .i64 0, .int .i64 0], .bool false] := by
      rcases hT with ⟨i, hi, _⟩ | ⟨_, e⟩
      · exact absurd hi (HD.out i)
      · exact e
    have Q : Hid (Below w.heap.size w (w1.alloc (.cells #[.int .i64 0, .int .i64 0, .int .i64 0, .int .i64 0] 45))) := q1.alloc q1.size _
    clear hT q1
    go_wp2_with fail
    refine (writeOf_anyO B b oo N m nl l nw k g u1 u2 key start _ (H.out.later (Q.out.mono (Nat.le_refl _))) hw).mono ?_
    rintro e w2 ⟨v, rfl, hT, q1⟩
    obtain rfl : v = .tuple #[.agg #[.int .i64 n0, .int .i64 n1, .int .i64 n2, .int .i64 n3], .bool true] := by
      rcases hT with ⟨j, hj, e⟩ | ⟨h, _⟩
      · obtain rfl := firstW.one hj HI.out
        rw [e, NN.out.1, NN.out.2.1, NN.out.2.2.1, NN.out.2.2.2]
      · exact absurd HI.out (h _)
    have Q2 : Hid (Below w.heap.size w (w2.alloc (.cells #[.int .i64 n0, .int .i64 n1, .int .i64 n2, .int .i64 n3] 45))) := (Q.out.trans (q1.mono Q.out.size)).alloc (by have h1 := Q.out.size; have h2 := q1.size; omega) _
    clear hT q1
    go_wp2
    go_ret
    exact ⟨rfl, Q2.out⟩
  · have HD : Hid (doneW k nw key start i) := ⟨hi, h3⟩
    obtain ⟨n0, N0⟩ : ∃ x, k (i * 4) = x := ⟨_, rfl⟩
    obtain ⟨n1, N1⟩ : ∃ x, k (i * 4 + 1) = x := ⟨_, rfl⟩
    obtain ⟨n2, N2⟩ : ∃ x, k (i * 4 + 2) = x := ⟨_, rfl⟩
    obtain ⟨n3, N3⟩ : ∃ x, k (i * 4 + 3) = x := ⟨_, rfl⟩
    have NN : Hid (k (i * 4) = n0 ∧ k (i * 4 + 1) = n1 ∧ k (i * 4 + 2) = n2 ∧ k (i * 4 + 3) = n3) := ⟨N0, N1, N2, N3⟩
    clear N0 N1 N2 N3 hi h3
    go_enter Tryz.func99, Tryz.ntmps99
    go_wp2_with fail
    refine (doneOf_anyO B b oo N m nl l nw k g u1 u2 key start _ H.out hw).mono ?_
    rintro e w1 ⟨v, rfl, hT, q1⟩
    obtain rfl : v = .tuple #[.agg #[.int .i64 n0, .int .i64 n1, .int .i64 n2, .int .i64 n3], .bool true] := by
      rcases hT with ⟨j, hj, e⟩ | ⟨h, _⟩
      · obtain rfl := firstW.one hj.1 HD.out.1
        rw [e, NN.out.1, NN.out.2.1, NN.out.2.2.1, NN.out.2.2.2]
      · exact absurd HD.out (h _)
    have Q : Hid (Below w.heap.size w (w1.alloc (.cells #[.int .i64 n0, .int .i64 n1, .int .i64 n2, .int .i64 n3] 45))) := q1.alloc q1.size _
    clear hT q1
    go_wp2
    go_ret
    exact ⟨rfl, Q.out⟩
  · have HN : Hid (∀ i, ¬ firstW k nw key start i) := hno
    have HD : Hid (∀ j, ¬ doneW k nw key start j) := fun j hj => hno j hj.1
    have HL : Hid (firstL l nl key j) := hj
    obtain ⟨y0, Y0⟩ : ∃ x, l (j * 5) = x := ⟨_, rfl⟩
    obtain ⟨y1, Y1⟩ : ∃ x, l (j * 5 + 1) = x := ⟨_, rfl⟩
    obtain ⟨y2, Y2⟩ : ∃ x, l (j * 5 + 2) = x := ⟨_, rfl⟩
    obtain ⟨y3, Y3⟩ : ∃ x, l (j * 5 + 3) = x := ⟨_, rfl⟩
    obtain ⟨y4, Y4⟩ : ∃ x, l (j * 5 + 4) = x := ⟨_, rfl⟩
    have YY : Hid (l (j * 5) = y0 ∧ l (j * 5 + 1) = y1 ∧ l (j * 5 + 2) = y2 ∧ l (j * 5 + 3) = y3 ∧ l (j * 5 + 4) = y4) := ⟨Y0, Y1, Y2, Y3, Y4⟩
    obtain rfl : start = y1 := h1.symm.trans Y1
    clear Y0 Y1 Y2 Y3 Y4 hno hj h1
    go_enter Tryz.func99, Tryz.ntmps99
    go_wp2_with fail
    refine (doneOf_anyO B b oo N m nl l nw k g u1 u2 key start _ H.out hw).mono ?_
    rintro e w1 ⟨v, rfl, hT, q1⟩
    obtain rfl : v = .tuple #[.agg #[.int .i64 0, .int .i64 0, .int .i64 0, .int .i64 0], .bool false] := by
      rcases hT with ⟨i, hi, _⟩ | ⟨_, e⟩
      · exact absurd hi (HD.out i)
      · exact e
    have Q : Hid (Below w.heap.size w (w1.alloc (.cells #[.int .i64 0, .int .i64 0, .int .i64 0, .int .i64 0] 45))) := q1.alloc q1.size _
    clear hT q1
    go_wp2_with fail
    refine (writeOf_anyO B b oo N m nl l nw k g u1 u2 key start _ (H.out.later (Q.out.mono (Nat.le_refl _))) hw).mono ?_
    rintro e w2 ⟨v, rfl, hT, q1⟩
    obtain rfl : v = .tuple #[.agg #[.int .i64 0, .int .i64 0, .int .i64 0, .int .i64 0], .bool false] := by
      rcases hT with ⟨i, hi, _⟩ | ⟨_, e⟩
      · exact absurd hi (HN.out i)
      · exact e
    have Q2 : Hid (Below w.heap.size w (w2.alloc (.cells #[.int .i64 0, .int .i64 0, .int .i64 0, .int .i64 0] 45))) := (Q.out.trans (q1.mono Q.out.size)).alloc (by have h1 := Q.out.size; have h2 := q1.size; omega) _
    clear hT q1
    go_wp2_with fail
    refine (lockOf_anyO B b oo N m nl l nw k g u1 u2 key _ (H.out.later (Q2.out.mono (Nat.le_refl _))) hl).mono ?_
    rintro e w3 ⟨v, rfl, hT, q1⟩
    obtain rfl : v = .tuple #[.agg #[.int .i64 y0, .int .i64 start, .int .i64 y2, .int .i64 y3, .int .i64 y4], .bool true] := by
      rcases hT with ⟨q, hq, hp, hr, e⟩ | ⟨h, _⟩
      · obtain rfl := firstL.one ⟨hq, hp, hr⟩ HL.out
        rw [e, YY.out.1, YY.out.2.1, YY.out.2.2.1, YY.out.2.2.2.1, YY.out.2.2.2.2]
      · exact absurd HL.out.2.1 (h j HL.out.1)
    have Q3 : Hid (Below w.heap.size w (w3.alloc (.cells #[.int .i64 y0, .int .i64 start, .int .i64 y2, .int .i64 y3, .int .i64 y4] 96))) := (Q2.out.trans (q1.mono Q2.out.size)).alloc (by have h1 := Q2.out.size; have h2 := q1.size; omega) _
    clear hT q1
    go_wp2
    go_ret
    exact ⟨rfl, Q3.out⟩
  · have HN : Hid (∀ i, ¬ firstW k nw key start i) := hno
    have HD : Hid (∀ j, ¬ doneW k nw key start j) := fun j hj => hno j hj.1
    have HL : Hid (firstL l nl key j) := hj
    obtain ⟨y0, Y0⟩ : ∃ x, l (j * 5) = x := ⟨_, rfl⟩
    obtain ⟨y1, Y1⟩ : ∃ x, l (j * 5 + 1) = x := ⟨_, rfl⟩
    obtain ⟨y2, Y2⟩ : ∃ x, l (j * 5 + 2) = x := ⟨_, rfl⟩
    obtain ⟨y3, Y3⟩ : ∃ x, l (j * 5 + 3) = x := ⟨_, rfl⟩
    obtain ⟨y4, Y4⟩ : ∃ x, l (j * 5 + 4) = x := ⟨_, rfl⟩
    have YY : Hid (l (j * 5) = y0 ∧ l (j * 5 + 1) = y1 ∧ l (j * 5 + 2) = y2 ∧ l (j * 5 + 3) = y3 ∧ l (j * 5 + 4) = y4) := ⟨Y0, Y1, Y2, Y3, Y4⟩
    have d1 : (y1 == start) = false := beq_eq_false_iff_ne.2 (by rw [← Y1]; exact h1)
    clear Y0 Y1 Y2 Y3 Y4 hno hj h1
    go_enter Tryz.func99, Tryz.ntmps99
    go_wp2_with fail
    refine (doneOf_anyO B b oo N m nl l nw k g u1 u2 key start _ H.out hw).mono ?_
    rintro e w1 ⟨v, rfl, hT, q1⟩
    obtain rfl : v = .tuple #[.agg #[.int .i64 0, .int .i64 0, .int .i64 0, .int .i64 0], .bool false] := by
      rcases hT with ⟨i, hi, _⟩ | ⟨_, e⟩
      · exact absurd hi (HD.out i)
      · exact e
    have Q : Hid (Below w.heap.size w (w1.alloc (.cells #[.int .i64 0, .int .i64 0, .int .i64 0, .int .i64 0] 45))) := q1.alloc q1.size _
    clear hT q1
    go_wp2_with fail
    refine (writeOf_anyO B b oo N m nl l nw k g u1 u2 key start _ (H.out.later (Q.out.mono (Nat.le_refl _))) hw).mono ?_
    rintro e w2 ⟨v, rfl, hT, q1⟩
    obtain rfl : v = .tuple #[.agg #[.int .i64 0, .int .i64 0, .int .i64 0, .int .i64 0], .bool false] := by
      rcases hT with ⟨i, hi, _⟩ | ⟨_, e⟩
      · exact absurd hi (HN.out i)
      · exact e
    have Q2 : Hid (Below w.heap.size w (w2.alloc (.cells #[.int .i64 0, .int .i64 0, .int .i64 0, .int .i64 0] 45))) := (Q.out.trans (q1.mono Q.out.size)).alloc (by have h1 := Q.out.size; have h2 := q1.size; omega) _
    clear hT q1
    go_wp2_with fail
    refine (lockOf_anyO B b oo N m nl l nw k g u1 u2 key _ (H.out.later (Q2.out.mono (Nat.le_refl _))) hl).mono ?_
    rintro e w3 ⟨v, rfl, hT, q1⟩
    obtain rfl : v = .tuple #[.agg #[.int .i64 y0, .int .i64 y1, .int .i64 y2, .int .i64 y3, .int .i64 y4], .bool true] := by
      rcases hT with ⟨q, hq, hp, hr, e⟩ | ⟨h, _⟩
      · obtain rfl := firstL.one ⟨hq, hp, hr⟩ HL.out
        rw [e, YY.out.1, YY.out.2.1, YY.out.2.2.1, YY.out.2.2.2.1, YY.out.2.2.2.2]
      · exact absurd HL.out.2.1 (h j HL.out.1)
    have Q3 : Hid (Below w.heap.size w (w3.alloc (.cells #[.int .i64 y0, .int .i64 y1, .int .i64 y2, .int .i64 y3, .int .i64 y4] 96))) := (Q2.out.trans (q1.mono Q2.out.size)).alloc (by have h1 := Q2.out.size; have h2 := q1.size; omega) _
    clear hT q1
    go_wp2
    go_ret
    exact ⟨rfl, Q3.out⟩
  · have HN : Hid (∀ i, ¬ firstW k nw key start i) := hno
    have HD : Hid (∀ j, ¬ doneW k nw key start j) := fun j hj => hno j hj.1
    have HL : Hid (∀ i, i < nl → ¬ lockIs l key i) := hno2
    clear hno hno2
    go_enter Tryz.func99, Tryz.ntmps99
    go_wp2_with fail
    refine (doneOf_anyO B b oo N m nl l nw k g u1 u2 key start _ H.out hw).mono ?_
    rintro e w1 ⟨v, rfl, hT, q1⟩
    obtain rfl : v = .tuple #[.agg #[.int .i64 0, .int .i64 0, .int .i64 0, .int .i64 0], .bool false] := by
      rcases hT with ⟨i, hi, _⟩ | ⟨_, e⟩
      · exact absurd hi (HD.out i)
      · exact e
    have Q : Hid (Below w.heap.size w (w1.alloc (.cells #[.int .i64 0, .int .i64 0, .int .i64 0, .int .i64 0] 45))) := q1.alloc q1.size _
    clear hT q1
    go_wp2_with fail
    refine (writeOf_anyO B b oo N m nl l nw k g u1 u2 key start _ (H.out.later (Q.out.mono (Nat.le_refl _))) hw).mono ?_
    rintro e w2 ⟨v, rfl, hT, q1⟩
    obtain rfl : v = .tuple #[.agg #[.int .i64 0, .int .i64 0, .int .i64 0, .int .i64 0], .bool false] := by
      rcases hT with ⟨i, hi, _⟩ | ⟨_, e⟩
      · exact absurd hi (HN.out i)
      · exact e
    have Q2 : Hid (Below w.heap.size w (w2.alloc (.cells #[.int .i64 0, .int .i64 0, .int .i64 0, .int .i64 0] 45))) := (Q.out.trans (q1.mono Q.out.size)).alloc (by have h1 := Q.out.size; have h2 := q1.size; omega) _
    clear hT q1
    go_wp2_with fail
    refine (lockOf_anyO B b oo N m nl l nw k g u1 u2 key _ (H.out.later (Q2.out.mono (Nat.le_refl _))) hl).mono ?_
    rintro e w3 ⟨v, rfl, hT, q1⟩
    obtain rfl : v = .tuple #[.agg #[.int .i64 0, .int .i64 0, .int .i64 0, .int .i64 0, .int .i64 0], .bool false] := by
      rcases hT with ⟨i, hi, hp, _⟩ | ⟨_, e⟩
      · exact absurd hp (HL.out i hi)
      · exact e
    have Q3 : Hid (Below w.heap.size w (w3.alloc (.cells #[.int .i64 0, .int .i64 0, .int .i64 0, .int .i64 0, .int .i64 0] 96))) := (Q2.out.trans (q1.mono Q2.out.size)).alloc (by have h1 := Q2.out.size; have h2 := q1.size; omega) _
    clear hT q1
    go_wp2
    go_ret
    exact ⟨rfl, Q3.out⟩
theorem status_is (B b N : Nat) (m : Int → Int → Option Int) (nl : Nat) (l : Nat → Int) (nw : Nat) (k : Nat → Int) (g : Nat) (u1 u2 : Value) (key start r : Int) (w : World) (h : Cols w B b N m nl l nw k g u1 u2) (hl : nl ≤ 200) (hw : nw ≤ 200) (hr : StatIs nl l nw k key start r) :
    Calls Tryz.prog 99 #[.pointer (some ⟨b, 0, none⟩), .int .i64 key, .int .i64 start] w fun e w' => e = .returned (.int .i64 r) ∧ Below w.heap.size w w' := status_isO B b 0 N m nl l nw k g u1 u2 key start r w h hl hw hr
set_option maxRecDepth 100000 in
set_option maxHeartbeats 4000000 in
theorem l4Status_isO (S : Sto) (b oo : Nat) (v0 v1 v2 : Value) (key start r : Int) (w : World) (h : LiesO w b oo S v0 v1 v2) (hl : S.nl ≤ 200) (hw : S.nw ≤ 200) (hr : StatIs S.nl S.l S.nw S.k key start r) :
    Calls Tryz.prog 94 #[.pointer (some ⟨b, oo, none⟩), .int .i64 key, .int .i64 start] w fun e w' => e = .returned (.int .i64 r) ∧ w' = w := by
  obtain ⟨a0, c0, a1, c1, a2, c2, rfl, rfl, rfl⟩ := h.2.form
  have H : Hid (LiesO w b oo S (.slice a0 S.nc c0) (.slice a1 S.nl c1) (.slice a2 S.nw c2)) := h
  have p1 := h.1.2.1
  have p2 := h.1.2.2
  have hb := h.lt
  clear h
  rcases hr with ⟨i, hi, hr⟩ | ⟨hno, hr⟩
  · obtain ⟨g, o, rfl, _, hg, x0, x1, x2, x3⟩ := H.out.2.2.2.at4 hi.1
    obtain ⟨n3, N3⟩ : ∃ x, S.k (i * 4 + 3) = x := ⟨_, rfl⟩
    rw [N3] at x3 hr
    have HI : Hid (firstW S.k S.nw key start i) := hi
    have hin : (i : Int) < (S.nw : Int) := by have := hi.1; omega
    clear N3 hi
    rcases hr with ⟨rfl, rfl⟩ | ⟨h3, rfl⟩
    · go_enter Tryz.func94, Tryz.ntmps94
      go_wp2_with fail
      refine (write_yesO S b oo _ _ _ key start i _ H.out hw HI.out).mono ?_
      rintro e w1 ⟨rfl, rfl⟩
      go_wp2
      go_ret
      exact ⟨rfl, rfl⟩
    · have d3 : (n3 == 4) = false := beq_eq_false_iff_ne.2 h3
      clear h3
      go_enter Tryz.func94, Tryz.ntmps94
      go_wp2_with fail
      refine (write_yesO S b oo _ _ _ key start i _ H.out hw HI.out).mono ?_
      rintro e w1 ⟨rfl, rfl⟩
      go_wp2
      go_ret
      exact ⟨rfl, rfl⟩
  · have HN : Hid (∀ i, ¬ firstW S.k S.nw key start i) := hno
    clear hno
    rcases hr with ⟨j, hj, hr⟩ | ⟨hno2, rfl⟩
    · obtain ⟨g, o, rfl, _, hg, x0, x1, x2, x3, x4⟩ := H.out.2.2.1.at5 hj.1
      obtain ⟨y1, Y1⟩ : ∃ x, S.l (j * 5 + 1) = x := ⟨_, rfl⟩
      rw [Y1] at x1 hr
      have HL : Hid (FirstAt (lockIs S.l key) S.nl j) := Or.inr ⟨j, hj.1, rfl, hj.2.1, hj.2.2⟩
      have hin : (j : Int) < (S.nl : Int) := by have := hj.1; omega
      clear Y1 hj
      rcases hr with ⟨rfl, rfl⟩ | ⟨h1, rfl⟩
      · go_enter Tryz.func94, Tryz.ntmps94
        go_wp2_with fail
        refine (write_noO S b oo _ _ _ key y1 _ H.out hw HN.out).mono ?_
        rintro e w1 ⟨rfl, rfl⟩
        go_wp2_with fail
        refine (l2Lock_isO S b oo _ _ _ key j _ H.out hl HL.out).mono ?_
        rintro e w1' ⟨rfl, rfl⟩
        go_wp2
        go_ret
        exact ⟨rfl, rfl⟩
      · have d1 : (y1 == start) = false := beq_eq_false_iff_ne.2 h1
        clear h1
        go_enter Tryz.func94, Tryz.ntmps94
        go_wp2_with fail
        refine (write_noO S b oo _ _ _ key start _ H.out hw HN.out).mono ?_
        rintro e w1 ⟨rfl, rfl⟩
        go_wp2_with fail
        refine (l2Lock_isO S b oo _ _ _ key j _ H.out hl HL.out).mono ?_
        rintro e w1' ⟨rfl, rfl⟩
        go_wp2
        go_ret
        exact ⟨rfl, rfl⟩
    · have HL : Hid (FirstAt (lockIs S.l key) S.nl (-1)) := Or.inl ⟨rfl, hno2⟩
      clear hno2
      go_enter Tryz.func94, Tryz.ntmps94
      go_wp2_with fail
      refine (write_noO S b oo _ _ _ key start _ H.out hw HN.out).mono ?_
      rintro e w1 ⟨rfl, rfl⟩
      go_wp2_with fail
      refine (l2Lock_isO S b oo _ _ _ key (-1) _ H.out hl HL.out).mono ?_
      rintro e w1' ⟨rfl, rfl⟩
      go_wp2
      go_ret
      exact ⟨rfl, rfl⟩
theorem l4Status_is (S : Sto) (b : Nat) (v0 v1 v2 : Value) (key start r : Int) (w : World) (h : Lies w b S v0 v1 v2) (hl : S.nl ≤ 200) (hw : S.nw ≤ 200) (hr : StatIs S.nl S.l S.nw S.k key start r) :
    Calls Tryz.prog 94 #[.pointer (some ⟨b, 0, none⟩), .int .i64 key, .int .i64 start] w fun e w' => e = .returned (.int .i64 r) ∧ w' = w := l4Status_isO S b 0 v0 v1 v2 key start r w h hl hw hr
end Go.Proofs.YtpfmbfmlpoibeaaGreat
