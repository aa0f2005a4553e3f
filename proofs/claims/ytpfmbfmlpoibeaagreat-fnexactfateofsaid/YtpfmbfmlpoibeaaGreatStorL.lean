/-
  Own text, merged of StorE, StorL.
-/
import Derived.Test.YtpfmbfmlpoibeaaGreatStorA
import Derived.Test.YtpfmbfmlpoibeaaGreatStorB
import Derived.Test.YtpfmbfmlpoibeaaGreatStorQ
namespace Go.Proofs.YtpfmbfmlpoibeaaGreat
section
open Go.RowKit
-- Own text. The first write of a key and a start, and the last put or delete of a key up to a time: the program's writeOf and lastWrite, the model's l2Last; and what is told of one write: writeAlone, l2One.
def firstW (k : Nat → Int) (n : Nat) (key start : Int) (i : Nat) : Prop := i < n ∧ writeIs k key start i ∧ ∀ j, j < i → ¬ writeIs k key start j
def lastP (k : Nat → Int) (key ts : Int) (i : Nat) : Prop := k (i * 4) = key ∧ k (i * 4 + 1) ≤ ts ∧ k (i * 4 + 3) ≤ 2
def lastW (k : Nat → Int) (n : Nat) (key ts : Int) (i : Nat) : Prop := i < n ∧ lastP k key ts i ∧ ∀ j, i < j → j < n → ¬ lastP k key ts j
theorem firstW.one {k : Nat → Int} {n : Nat} {a b : Int} {i j : Nat} (h : firstW k n a b i) (h' : firstW k n a b j) : i = j := by
  rcases Nat.lt_trichotomy i j with e | e | e
  · exact absurd h.2.1 (h'.2.2 i e)
  · exact e
  · exact absurd h'.2.1 (h.2.2 j e)
theorem lastW.one {k : Nat → Int} {n : Nat} {a b : Int} {i j : Nat} (h : lastW k n a b i) (h' : lastW k n a b j) : i = j := by
  rcases Nat.lt_trichotomy i j with e | e | e
  · exact absurd h'.2.1 (h.2.2 j e h'.1)
  · exact e
  · exact absurd h.2.1 (h'.2.2 i e h.1)
/-- What is told of one write: its numbers and true, or zeros and false. -/
def Told (q : Nat → Prop) (k : Nat → Int) (v : Value) : Prop :=
  (∃ i, q i ∧ v = .tuple #[.agg #[.int .i64 (k (i * 4)), .int .i64 (k (i * 4 + 1)), .int .i64 (k (i * 4 + 2)), .int .i64 (k (i * 4 + 3))], .bool true]) ∨ ((∀ i, ¬ q i) ∧ v = .tuple #[.agg #[.int .i64 0, .int .i64 0, .int .i64 0, .int .i64 0], .bool false])
set_option maxRecDepth 100000 in
set_option maxHeartbeats 4000000 in
theorem writeOf_anyO (B b oo N : Nat) (m : Int → Int → Option Int) (nl : Nat) (l : Nat → Int) (nw : Nat) (k : Nat → Int) (g : Nat) (u1 u2 : Value) (key start : Int) (w : World) (h : ColsO w B b oo N m nl l nw k g u1 u2) (hn : nw ≤ 200) :
    Calls Tryz.prog 35 #[.pointer (some ⟨b, oo, none⟩), .int .i64 key, .int .i64 start] w fun e w' => ∃ v, e = .returned v ∧ Told (firstW k nw key start) k v ∧ Below w.heap.size w w' := by
  obtain ⟨a1, c1, rfl⟩ := h.2.2.2.2.2.form
  have H : Hid (Row w B 4 nw k (.slice a1 nw c1)) := h.2.2.2.2.2.row.1
  have p1 := h.2.2.1.1.2.2
  have hb := h.2.2.1.lt
  clear h
  go_enter Tryz.func35, Tryz.ntmps35
  go_wp2
  clear p1
  go_loopw [15] (fun i wr => ∃ q : Nat, q ≤ nw ∧ i = .int .i64 q ∧ Hid (∀ j, j < q → ¬ writeIs k key start j) ∧ Hid (Below w.heap.size w wr ∧ Blk4 wr w.heap.size (.int .i64 0) (.int .i64 0) (.int .i64 0) (.int .i64 0))) (fun i _ => nw - (intOf i).toNat)
  case atStart => exact ⟨0, Nat.zero_le _, rfl, fun j hj => absurd hj (Nat.not_lt_zero j), below_alloc _ _, Blk4.new w _ _ _ _ _⟩
  case round =>
    obtain ⟨q, hq, rfl, HS, HB⟩ := hrel
    by_cases hlt : q < nw
    case neg =>
      obtain rfl : q = nw := by omega
      obtain ⟨⟨t0, t1, t2, t3⟩, f0, f1, f2, f3⟩ := HB.out.2
      go_wp2
      refine bodyPost_ret (v := .tuple #[.agg #[.int .i64 0, .int .i64 0, .int .i64 0, .int .i64 0], .bool false]) (by simp [results, Tryz.results35, go_sem, t0, t1, t2, t3]) rfl ⟨_, rfl, Or.inr ⟨fun i hi => HS.out i hi.1 hi.2.1, rfl⟩, ?_⟩
      exact (((HB.out.1.setCell (Nat.le_refl _) _).setCell (Nat.le_refl _) _).setCell (Nat.le_refl _) _).setCell (Nat.le_refl _) _
    obtain ⟨g', o, rfl, _, hg, x0, x1, x2, x3⟩ := (H.out.later HB.out.1).at4 hlt
    obtain ⟨n0, N0⟩ : ∃ x, k (q * 4) = x := ⟨_, rfl⟩
    rw [N0] at x0
    obtain ⟨n1, N1⟩ : ∃ x, k (q * 4 + 1) = x := ⟨_, rfl⟩
    rw [N1] at x1
    obtain ⟨n2, N2⟩ : ∃ x, k (q * 4 + 2) = x := ⟨_, rfl⟩
    rw [N2] at x2
    obtain ⟨n3, N3⟩ : ∃ x, k (q * 4 + 3) = x := ⟨_, rfl⟩
    rw [N3] at x3
    have hZ := HB.out.2.later (below_alloc wr (.cells #[.int .i64 n0, .int .i64 n1, .int .i64 n2, .int .i64 n3] 45))
    have hB2 := HB.out.1.alloc HB.out.1.size (.cells #[.int .i64 n0, .int .i64 n1, .int .i64 n2, .int .i64 n3] 45)
    have NN : Hid (k (q * 4) = n0 ∧ k (q * 4 + 1) = n1 ∧ k (q * 4 + 2) = n2 ∧ k (q * 4 + 3) = n3) := ⟨N0, N1, N2, N3⟩
    by_cases h0 : n0 = key
    case neg =>
      have E : Hid (∀ j, j < q + 1 → ¬ writeIs k key start j) := all_next HS.out (fun e => h0 (N0.symm.trans e.1))
      have HE : Hid (Below w.heap.size w (wr.alloc (.cells #[.int .i64 n0, .int .i64 n1, .int .i64 n2, .int .i64 n3] 45)) ∧ Blk4 (wr.alloc (.cells #[.int .i64 n0, .int .i64 n1, .int .i64 n2, .int .i64 n3] 45)) w.heap.size (.int .i64 0) (.int .i64 0) (.int .i64 0) (.int .i64 0)) := ⟨hB2, hZ⟩
      have d0 : (n0 == key) = false := beq_eq_false_iff_ne.2 h0
      clear N0 N1 N2 N3 NN HS h0 hZ hB2 HB
      go_wp2
      go_roundw
      case rel => exact ⟨q + 1, by omega, by go_num, E, HE⟩
      case measure => simp [intOf]; omega
    by_cases h2 : n2 = start
    case neg =>
      have E : Hid (∀ j, j < q + 1 → ¬ writeIs k key start j) := all_next HS.out (fun e => h2 (N2.symm.trans e.2))
      have HE : Hid (Below w.heap.size w (wr.alloc (.cells #[.int .i64 n0, .int .i64 n1, .int .i64 n2, .int .i64 n3] 45)) ∧ Blk4 (wr.alloc (.cells #[.int .i64 n0, .int .i64 n1, .int .i64 n2, .int .i64 n3] 45)) w.heap.size (.int .i64 0) (.int .i64 0) (.int .i64 0) (.int .i64 0)) := ⟨hB2, hZ⟩
      have d2 : (n2 == start) = false := beq_eq_false_iff_ne.2 h2
      clear N0 N1 N2 N3 NN HS h2 hZ hB2 HB
      subst h0
      go_wp2
      go_roundw
      case rel => exact ⟨q + 1, by omega, by go_num, E, HE⟩
      case measure => simp [intOf]; omega
    have E : Hid (writeIs k key start q) := ⟨N0.trans h0, N2.trans h2⟩
    have hne : ¬ wr.heap.size = w.heap.size := fun e => by have := HB.out.2.lt; omega
    obtain ⟨⟨t0, t1, t2, t3⟩, f0, f1, f2, f3⟩ := hZ
    clear N0 N1 N2 N3 HB
    subst h0 h2
    go_wp2
    refine bodyPost_ret (v := .tuple #[.agg #[.int .i64 n0, .int .i64 n1, .int .i64 n2, .int .i64 n3], .bool true]) (by simp [results, Tryz.results35, go_sem, t0, t1, t2, t3]) rfl ⟨_, rfl, Or.inl ⟨q, ⟨hlt, E.out, HS.out⟩, by rw [NN.out.1, NN.out.2.1, NN.out.2.2.1, NN.out.2.2.2]⟩, ?_⟩
    exact (((hB2.setCell (Nat.le_refl _) _).setCell (Nat.le_refl _) _).setCell (Nat.le_refl _) _).setCell (Nat.le_refl _) _
theorem writeOf_any (B b N : Nat) (m : Int → Int → Option Int) (nl : Nat) (l : Nat → Int) (nw : Nat) (k : Nat → Int) (g : Nat) (u1 u2 : Value) (key start : Int) (w : World) (h : Cols w B b N m nl l nw k g u1 u2) (hn : nw ≤ 200) :
    Calls Tryz.prog 35 #[.pointer (some ⟨b, 0, none⟩), .int .i64 key, .int .i64 start] w fun e w' => ∃ v, e = .returned v ∧ Told (firstW k nw key start) k v ∧ Below w.heap.size w w' := writeOf_anyO B b 0 N m nl l nw k g u1 u2 key start w h hn
theorem kind_is {x : Int} (h : 1 ≤ x) : x ≤ 2 ↔ x = 1 ∨ x = 2 := by omega
/-- What lastWrite has found behind q writes: its result's block, and whether there is one. -/
def LastEnv (w : World) (k : Nat → Int) (key ts : Int) (q : Nat) (ok : Bool) (x : World) : Prop :=
  Below w.heap.size w x ∧ ((ok = false ∧ (∀ i, ¬ lastW k q key ts i) ∧ Blk4 x w.heap.size (.int .i64 0) (.int .i64 0) (.int .i64 0) (.int .i64 0)) ∨ (ok = true ∧ ∃ i, lastW k q key ts i ∧ Blk4 x w.heap.size (.int .i64 (k (i * 4))) (.int .i64 (k (i * 4 + 1))) (.int .i64 (k (i * 4 + 2))) (.int .i64 (k (i * 4 + 3)))))
theorem LastEnv.later {w x x' : World} {k : Nat → Int} {key ts : Int} {q : Nat} {ok : Bool} (h : LastEnv w k key ts q ok x) (hb : Below x.heap.size x x') : LastEnv w k key ts q ok x' := by
  refine ⟨h.1.trans (hb.mono h.1.size), ?_⟩
  rcases h.2 with ⟨e, h1, h2⟩ | ⟨e, i, h1, h2⟩
  · exact Or.inl ⟨e, h1, h2.later hb⟩
  · exact Or.inr ⟨e, i, h1, h2.later hb⟩
theorem lastW_skip {k : Nat → Int} {key ts : Int} {q : Nat} (h : ¬ lastP k key ts q) (i : Nat) : lastW k (q + 1) key ts i ↔ lastW k q key ts i := by
  constructor
  · rintro ⟨h1, h2, h3⟩
    have hi : i < q := by
      rcases Nat.lt_or_ge i q with e | e
      · exact e
      · obtain rfl : i = q := by omega
        exact absurd h2 h
    exact ⟨hi, h2, fun j hj hjq => h3 j hj (by omega)⟩
  · rintro ⟨h1, h2, h3⟩
    refine ⟨by omega, h2, fun j hj hjq => ?_⟩
    rcases Nat.lt_or_ge j q with e | e
    · exact h3 j hj e
    · obtain rfl : j = q := by omega
      exact h
theorem LastEnv.skip {w x : World} {k : Nat → Int} {key ts : Int} {q : Nat} {ok : Bool} (h : LastEnv w k key ts q ok x) (hp : ¬ lastP k key ts q) : LastEnv w k key ts (q + 1) ok x := by
  refine ⟨h.1, ?_⟩
  rcases h.2 with ⟨e, h1, h2⟩ | ⟨e, i, h1, h2⟩
  · exact Or.inl ⟨e, fun i hi => h1 i ((lastW_skip hp i).1 hi), h2⟩
  · exact Or.inr ⟨e, i, (lastW_skip hp i).2 h1, h2⟩
theorem LastEnv.cells {w x : World} {k : Nat → Int} {key ts : Int} {q : Nat} {ok : Bool} (h : LastEnv w k key ts q ok x) : ∃ t0 t1 t2 t3 : Int, Blk4 x w.heap.size (.int .i64 t0) (.int .i64 t1) (.int .i64 t2) (.int .i64 t3) := by
  rcases h.2 with ⟨_, _, h2⟩ | ⟨_, i, _, h2⟩
  · exact ⟨_, _, _, _, h2⟩
  · exact ⟨_, _, _, _, h2⟩
end

section
open Go.RowKit
-- Own text. The last put or delete of a key up to a time, as the model finds it.
set_option maxRecDepth 100000 in
set_option maxHeartbeats 4000000 in
theorem l2Last_anyO (S : Sto) (b oo : Nat) (v0 v1 v2 : Value) (key ts : Int) (w : World) (h : LiesO w b oo S v0 v1 v2) (hn : S.nw ≤ 200) :
    Calls Tryz.prog 205 #[.pointer (some ⟨b, oo, none⟩), .int .i64 key, .int .i64 ts] w fun e w' => ∃ r : Int, e = .returned (.int .i64 r) ∧ ((r = -1 ∧ ∀ i, ¬ lastW S.k S.nw key ts i) ∨ ∃ i : Nat, lastW S.k S.nw key ts i ∧ r = i) ∧ Below w.heap.size w w' := by
  obtain ⟨a0, c0, a1, c1, a2, c2, rfl, rfl, rfl⟩ := h.2.form
  have H : Hid (LiesO w b oo S (.slice a0 S.nc c0) (.slice a1 S.nl c1) (.slice a2 S.nw c2)) := h
  clear h
  go_enter Tryz.func205, Tryz.ntmps205
  go_wp2
  go_loopw [7, 8] (fun o i wr => ∃ (q : Nat) (r : Int), q ≤ S.nw ∧ i = .int .i64 q ∧ o = .int .i64 r ∧ Hid ((r = -1 ∧ ∀ i, ¬ lastW S.k q key ts i) ∨ ∃ i : Nat, lastW S.k q key ts i ∧ r = i) ∧ Hid (Below w.heap.size w wr)) (fun _ i _ => S.nw - (intOf i).toNat)
  case atStart => exact ⟨0, -1, Nat.zero_le _, rfl, rfl, Or.inl ⟨rfl, fun i hi => absurd hi.1 (Nat.not_lt_zero i)⟩, Below.refl _ _⟩
  case round =>
    obtain ⟨q, r, hq, rfl, rfl, HS, HB⟩ := hrel
    have HL : Hid (LiesO wr b oo S (.slice a0 S.nc c0) (.slice a1 S.nl c1) (.slice a2 S.nw c2)) := H.out.later HB.out
    have e2 := HL.out.1.2.2
    by_cases hlt : q < S.nw
    case neg =>
      obtain rfl : q = S.nw := by omega
      clear HL
      go_wp2
      go_ret
      exact ⟨r, rfl, HS.out, HB.out⟩
    obtain ⟨g, o, rfl, _, hg, x0, x1, x2, x3⟩ := HL.out.2.2.2.at4 hlt
    obtain ⟨n0, N0⟩ : ∃ x, S.k (q * 4) = x := ⟨_, rfl⟩
    rw [N0] at x0
    obtain ⟨n1, N1⟩ : ∃ x, S.k (q * 4 + 1) = x := ⟨_, rfl⟩
    rw [N1] at x1
    obtain ⟨n2, N2⟩ : ∃ x, S.k (q * 4 + 2) = x := ⟨_, rfl⟩
    rw [N2] at x2
    obtain ⟨n3, N3⟩ : ∃ x, S.k (q * 4 + 3) = x := ⟨_, rfl⟩
    rw [N3] at x3
    have hbl := HL.out.lt
    have HE : Hid (Below w.heap.size w (wr.alloc (.cells #[.int .i64 n0, .int .i64 n1, .int .i64 n2, .int .i64 n3] 45))) := HB.out.alloc HB.out.size _
    have LP : lastP S.k key ts q ↔ n0 = key ∧ n1 ≤ ts ∧ n3 ≤ 2 := by unfold lastP; rw [N0, N1, N3]
    by_cases hp : lastP S.k key ts q
    · obtain ⟨rfl, h1, h3⟩ := LP.1 hp
      have d1 : decide (n1 ≤ ts) = true := decide_eq_true h1
      have d3 : decide (n3 ≤ 2) = true := decide_eq_true h3
      have E : Hid (((q : Int) = -1 ∧ ∀ i, ¬ lastW S.k (q + 1) n0 ts i) ∨ ∃ i : Nat, lastW S.k (q + 1) n0 ts i ∧ (q : Int) = i) := Or.inr ⟨q, ⟨by omega, hp, fun j h1 h2 => by omega⟩, rfl⟩
      clear LP hp N0 N1 N2 N3 HS HL HB h1 h3
      go_wp2
      go_roundw
      case rel => exact ⟨q + 1, q, by omega, by go_num, rfl, E, HE⟩
      case measure => simp [intOf]; omega
    · have E : Hid ((r = -1 ∧ ∀ i, ¬ lastW S.k (q + 1) key ts i) ∨ ∃ i : Nat, lastW S.k (q + 1) key ts i ∧ r = i) := by
        rcases HS.out with ⟨e, h⟩ | ⟨i, h, e⟩
        · exact Or.inl ⟨e, fun i hi => h i ((lastW_skip hp i).1 hi)⟩
        · exact Or.inr ⟨i, (lastW_skip hp i).2 h, e⟩
      have hno : ¬ (n0 = key ∧ n1 ≤ ts ∧ n3 ≤ 2) := fun e => hp (LP.2 e)
      clear LP hp N0 N1 N2 N3 HS HL HB
      by_cases h0 : n0 = key
      case neg =>
        have d0 : (n0 == key) = false := beq_eq_false_iff_ne.2 h0
        clear hno h0
        go_wp2
        go_roundw
        case rel => exact ⟨q + 1, r, by omega, by go_num, rfl, E, HE⟩
        case measure => simp [intOf]; omega
      subst h0
      by_cases h1 : n1 ≤ ts
      case neg =>
        have d1 : decide (n1 ≤ ts) = false := decide_eq_false h1
        clear hno h1
        go_wp2
        go_roundw
        case rel => exact ⟨q + 1, r, by omega, by go_num, rfl, E, HE⟩
        case measure => simp [intOf]; omega
      have d1 : decide (n1 ≤ ts) = true := decide_eq_true h1
      have d3 : decide (n3 ≤ 2) = false := decide_eq_false (fun q => hno ⟨rfl, h1, q⟩)
      clear hno h1
      go_wp2
      go_roundw
      case rel => exact ⟨q + 1, r, by omega, by go_num, rfl, E, HE⟩
      case measure => simp [intOf]; omega
theorem l2Last_any (S : Sto) (b : Nat) (v0 v1 v2 : Value) (key ts : Int) (w : World) (h : Lies w b S v0 v1 v2) (hn : S.nw ≤ 200) :
    Calls Tryz.prog 205 #[.pointer (some ⟨b, 0, none⟩), .int .i64 key, .int .i64 ts] w fun e w' => ∃ r : Int, e = .returned (.int .i64 r) ∧ ((r = -1 ∧ ∀ i, ¬ lastW S.k S.nw key ts i) ∨ ∃ i : Nat, lastW S.k S.nw key ts i ∧ r = i) ∧ Below w.heap.size w w' := l2Last_anyO S b 0 v0 v1 v2 key ts w h hn
theorem l2Last_noO (S : Sto) (b oo : Nat) (v0 v1 v2 : Value) (key ts : Int) (w : World) (h : LiesO w b oo S v0 v1 v2) (hn : S.nw ≤ 200) (hq : ∀ i, ¬ lastW S.k S.nw key ts i) :
    Calls Tryz.prog 205 #[.pointer (some ⟨b, oo, none⟩), .int .i64 key, .int .i64 ts] w fun e w' => e = .returned (.int .i64 (-1)) ∧ Below w.heap.size w w' :=
  (l2Last_anyO S b oo v0 v1 v2 key ts w h hn).mono fun e w' ⟨r, he, hr, hw⟩ => ⟨by
    rcases hr with ⟨rfl, _⟩ | ⟨i, hi, _⟩
    · exact he
    · exact absurd hi (hq i), hw⟩
theorem l2Last_no (S : Sto) (b : Nat) (v0 v1 v2 : Value) (key ts : Int) (w : World) (h : Lies w b S v0 v1 v2) (hn : S.nw ≤ 200) (hq : ∀ i, ¬ lastW S.k S.nw key ts i) :
    Calls Tryz.prog 205 #[.pointer (some ⟨b, 0, none⟩), .int .i64 key, .int .i64 ts] w fun e w' => e = .returned (.int .i64 (-1)) ∧ Below w.heap.size w w' := l2Last_noO S b 0 v0 v1 v2 key ts w h hn hq
theorem l2Last_yesO (S : Sto) (b oo : Nat) (v0 v1 v2 : Value) (key ts : Int) (i : Nat) (w : World) (h : LiesO w b oo S v0 v1 v2) (hn : S.nw ≤ 200) (hq : lastW S.k S.nw key ts i) :
    Calls Tryz.prog 205 #[.pointer (some ⟨b, oo, none⟩), .int .i64 key, .int .i64 ts] w fun e w' => e = .returned (.int .i64 i) ∧ Below w.heap.size w w' :=
  (l2Last_anyO S b oo v0 v1 v2 key ts w h hn).mono fun e w' ⟨r, he, hr, hw⟩ => ⟨by
    rcases hr with ⟨_, h⟩ | ⟨j, hj, rfl⟩
    · exact absurd hq (h i)
    · rw [he, hj.one hq], hw⟩
theorem l2Last_yes (S : Sto) (b : Nat) (v0 v1 v2 : Value) (key ts : Int) (i : Nat) (w : World) (h : Lies w b S v0 v1 v2) (hn : S.nw ≤ 200) (hq : lastW S.k S.nw key ts i) :
    Calls Tryz.prog 205 #[.pointer (some ⟨b, 0, none⟩), .int .i64 key, .int .i64 ts] w fun e w' => e = .returned (.int .i64 i) ∧ Below w.heap.size w w' := l2Last_yesO S b 0 v0 v1 v2 key ts i w h hn hq
end
end Go.Proofs.YtpfmbfmlpoibeaaGreat
