/-
  Own text, merged of PreA, PreB, PreC, PreD, PreE.
-/
import Derived.Test.YtkbjlnnincknaaaGreatDoorRolB
import Derived.Test.YtkbjlnnincknaaaGreatDoorBinW
import Derived.Test.YtkbjlnnincknaaaGreatDoorInsM
import Derived.Test.YtkbjlnnincknaaaGreatDoorStorL
namespace Go.Proofs.YtkbjlnnincknaaaGreatDoor
section
open Go.RowKit Go.Maps
-- Own text. How many entries the map of the cells has; isLate and hasRoom of the program.
open Go.WideElems (rd_key rg_of)

theorem len_sub {α : Type} : ∀ (K L : List α), K.Pairwise (fun p q => p ≠ q) → (∀ x, x ∈ K → x ∈ L) → K.length ≤ L.length
  | [], _, _, _ => Nat.zero_le _
  | x :: K, L, hp, hs => by
    obtain ⟨L1, L2, rfl⟩ := List.append_of_mem (hs x (List.mem_cons_self ..))
    have hx := (List.pairwise_cons.1 hp).1
    have ih := len_sub K (L1 ++ L2) (List.pairwise_cons.1 hp).2 (fun y hy => by
      have h1 := hs y (List.mem_cons_of_mem _ hy)
      have h2 := hx y hy
      simp only [List.mem_append, List.mem_cons] at h1 ⊢
      rcases h1 with h1 | h1 | h1
      · exact Or.inl h1
      · exact absurd h1.symm h2
      · exact Or.inr h1)
    simp at ih ⊢
    omega
/-- The map's keys are just those of a row: so many entries. -/
theorem PM.count {w : World} {b n : Nat} {m : Int → Int → Option Int} (h : PM w b n m) (L : List (Int × Int)) (hd : L.Pairwise (fun p q => p ≠ q)) (hw : ∀ p, p ∈ L → Wf p.1 ∧ Wf p.2) (hs : ∀ x y, Wf x → Wf y → ((m x y).isSome = true ↔ (x, y) ∈ L)) :
    ∃ D : DataW Unit, w.ownsMap Tryz.prog 112 (plainElem Tryz.prog 2) b n D ∧ Maps.size D = L.length := by
  obtain ⟨D, h, r⟩ := h
  refine ⟨D, h, ?_⟩
  have hK : ∃ es, D = .map es ∧ es.Pairwise (fun p q => p.1 ≠ q.1) ∧ ∀ p ∈ es, ∃ x y, p.1 = kp x y ∧ Wf x ∧ Wf y := by
    obtain ⟨es, e1, e2, _⟩ := h.entries placeKeyed
    refine ⟨es, e1, e2, ?_⟩
    obtain ⟨es', clock, _, F, _, e3⟩ := h
    rw [e1] at e3
    obtain rfl : es = _ := DataW.map.inj e3
    intro p hp
    obtain ⟨x, hx, rfl⟩ := List.mem_map.1 (mem_sorted.1 hp)
    obtain ⟨y, hy⟩ := F.reads x hx
    rw [rg_of hy]
    obtain ⟨a, c, _, e4, ha, hc⟩ := keyOf_place_inv (rd_key hy)
    exact ⟨a, c, e4, ha, hc⟩
  obtain ⟨es, rfl, hp, hk⟩ := hK
  rw [size_eq]
  have mem : ∀ x y, Wf x → Wf y → (kp x y ∈ es.map (·.1) ↔ (x, y) ∈ L) := by
    intro x y hx hy
    rw [← hs x y hx hy, ← (r x y hx hy).1, has_eq, List.any_eq_true]
    constructor
    · intro q
      obtain ⟨p, h1, h2⟩ := List.mem_map.1 q
      refine ⟨p, h1, ?_⟩
      rw [h2, kp_same hx hy hx hy]
      simp
    · rintro ⟨p, h1, h2⟩
      obtain ⟨x', y', e, hx', hy'⟩ := hk p h1
      rw [e, kp_same hx' hy' hx hy] at h2
      obtain ⟨rfl, rfl⟩ := of_decide_eq_true h2
      exact List.mem_map.2 ⟨p, h1, e⟩
  have h1 : (es.map (·.1)).length ≤ (L.map (fun p => kp p.1 p.2)).length := len_sub _ _ (List.pairwise_map.2 hp) (fun k hk' => by
    obtain ⟨p, h1, rfl⟩ := List.mem_map.1 hk'
    obtain ⟨x, y, e, hx, hy⟩ := hk p h1
    rw [e] at hk' ⊢
    exact List.mem_map.2 ⟨(x, y), (mem x y hx hy).1 hk', rfl⟩)
  have h2 : (L.map (fun p => kp p.1 p.2)).length ≤ (es.map (·.1)).length := by
    refine len_sub _ _ ?_ (fun k hk' => ?_)
    · rw [List.pairwise_map]
      refine (List.Pairwise.imp_of_mem ?_ hd)
      rintro ⟨p1, p2⟩ ⟨q1, q2⟩ hp' hq' hne e
      obtain ⟨e1, e2⟩ := kp_inj (hw _ hp').1 (hw _ hp').2 (hw _ hq').1 (hw _ hq').2 e
      exact hne (by simp at e1 e2; rw [e1, e2])
    · obtain ⟨p, h1, rfl⟩ := List.mem_map.1 hk'
      exact (mem p.1 p.2 (hw p h1).1 (hw p h1).2).2 h1
  simp at h1 h2
  omega
theorem PM.countRow {w : World} {b N n : Nat} {m : Int → Int → Option Int} {c : Nat → Int} (h : PM w b N m) (hm : MapRow m n c) :
    ∃ D : DataW Unit, w.ownsMap Tryz.prog 112 (plainElem Tryz.prog 2) b N D ∧ Maps.size D = n := by
  obtain ⟨hr, hw, ha, hs⟩ := hm
  have q1 : ((List.range n).map (fun i => (c (i * 3), c (i * 3 + 1)))).Pairwise (fun p q => p ≠ q) := by
    rw [List.pairwise_map]
    refine List.Pairwise.imp_of_mem ?_ List.pairwise_lt_range
    intro i j hi hj hij e
    exact (hr j (List.mem_range.1 hj) i hij).ne (by simpa using e)
  have q2 : ∀ p, p ∈ (List.range n).map (fun i => (c (i * 3), c (i * 3 + 1))) → Wf p.1 ∧ Wf p.2 := by
    intro p hp
    obtain ⟨i, hi, rfl⟩ := List.mem_map.1 hp
    exact hw i (List.mem_range.1 hi)
  have q3 : ∀ x y, Wf x → Wf y → ((m x y).isSome = true ↔ (x, y) ∈ (List.range n).map (fun i => (c (i * 3), c (i * 3 + 1)))) := by
    intro x y hx hy
    constructor
    · intro q
      obtain ⟨u, hu⟩ := Option.isSome_iff_exists.1 q
      obtain ⟨i, hi, e1, e2, _⟩ := hs x y u hx hy hu
      exact List.mem_map.2 ⟨i, List.mem_range.2 hi, by simp [e1, e2]⟩
    · intro q
      obtain ⟨i, hi, e⟩ := List.mem_map.1 q
      have e' : c (i * 3) = x ∧ c (i * 3 + 1) = y := by simpa using e
      rw [← e'.1, ← e'.2, ha i (List.mem_range.1 hi)]
      rfl
  obtain ⟨D, h1, h2⟩ := h.count _ q1 q2 q3
  exact ⟨D, h1, by simpa using h2⟩
end

section
open Go.RowKit Go.Maps
-- Own text. isLate and hasRoom of the program's columns.
/-- A write of that start, or a put or a delete at that time or behind it. -/
def lateP (k : Nat → Int) (nw : Nat) (a s : Int) : Prop := (∃ i, firstW k nw a s i) ∨ ∃ i, lastW k nw a 100000 i ∧ s ≤ k (i * 4 + 1)
set_option maxRecDepth 100000 in
set_option maxHeartbeats 4000000 in
theorem isLate_is (B b N : Nat) (m : Int → Int → Option Int) (nl : Nat) (l : Nat → Int) (nw : Nat) (k : Nat → Int) (g : Nat) (u1 u2 : Value) (a s : Int) (w : World) (h : Cols w B b N m nl l nw k g u1 u2) (hw : nw ≤ 200) (hk : ∀ i, i < nw → 1 ≤ k (i * 4 + 3)) (r : Bool) (hr : r = true ↔ lateP k nw a s) :
    Calls Tryz.prog 61 #[.pointer (some ⟨b, 0, none⟩), .int .i64 a, .int .i64 s] w fun e w' => e = .returned (.bool r) ∧ Below w.heap.size w w' := by
  have H : Hid (Cols w B b N m nl l nw k g u1 u2) := h
  have HK : Hid (∀ i, i < nw → 1 ≤ k (i * 4 + 3)) := hk
  clear h hk
  by_cases hi : ∃ i, firstW k nw a s i
  · obtain rfl : r = true := hr.2 (Or.inl hi)
    have HI : Hid (∃ i, firstW k nw a s i) := hi
    clear hr hi
    go_enter Tryz.func61, Tryz.ntmps61
    go_wp2_with fail
    refine (writeOf_any B b N m nl l nw k g u1 u2 a s _ H.out hw).mono ?_
    rintro e w1 ⟨v1, rfl, ht, q1⟩
    rcases ht with ⟨j, hj, rfl⟩ | ⟨hj, rfl⟩
    · have HB : Hid (Below w.heap.size w (w1.alloc (.cells #[.int .i64 (k (j * 4)), .int .i64 (k (j * 4 + 1)), .int .i64 (k (j * 4 + 2)), .int .i64 (k (j * 4 + 3))] 84))) := q1.trans ((below_alloc w1 _).mono q1.size)
      clear hj HI H HK q1
      generalize k (j * 4) = n0 at *
      generalize k (j * 4 + 1) = n1 at *
      generalize k (j * 4 + 2) = n2 at *
      generalize k (j * 4 + 3) = n3 at *
      go_wp2
      go_ret
      exact ⟨rfl, HB.out⟩
    · obtain ⟨i, hi⟩ := HI.out
      exact absurd hi (hj i)
  have HI : Hid (∀ i, ¬ firstW k nw a s i) := fun i q => hi ⟨i, q⟩
  have HR : Hid (r = true ↔ ∃ i, lastW k nw a 100000 i ∧ s ≤ k (i * 4 + 1)) := ⟨fun q => (hr.1 q).resolve_left hi, fun q => hr.2 (Or.inr q)⟩
  clear hr hi
  go_enter Tryz.func61, Tryz.ntmps61
  go_wp2_with fail
  refine (writeOf_any B b N m nl l nw k g u1 u2 a s _ H.out hw).mono ?_
  rintro e w1 ⟨v1, rfl, ht, q1⟩
  rcases ht with ⟨j, hj, rfl⟩ | ⟨hj, rfl⟩
  · exact absurd hj (HI.out j)
  have HB : Hid (Below w.heap.size w (w1.alloc (.cells #[.int .i64 0, .int .i64 0, .int .i64 0, .int .i64 0] 84))) := q1.trans ((below_alloc w1 _).mono q1.size)
  clear hj q1
  go_wp2_with fail
  refine (lastWrite_any B b N m nl l nw k g u1 u2 a 100000 _ (H.out.later HB.out) hw HK.out).mono ?_
  rintro e w2 ⟨v2, rfl, ht, q2⟩
  rcases ht with ⟨j, hj, rfl⟩ | ⟨hj, rfl⟩
  · have HB2 : Hid (Below w.heap.size w (w2.alloc (.cells #[.int .i64 (k (j * 4)), .int .i64 (k (j * 4 + 1)), .int .i64 (k (j * 4 + 2)), .int .i64 (k (j * 4 + 3))] 84))) := (HB.out.trans (q2.mono HB.out.size)).trans ((below_alloc w2 _).mono (Nat.le_trans HB.out.size q2.size))
    have hd : decide (s ≤ k (j * 4 + 1)) = r := by
      cases r with
      | true =>
        obtain ⟨i, h1, h2⟩ := HR.out.1 rfl
        obtain rfl : i = j := h1.one hj
        exact decide_eq_true h2
      | false =>
        exact decide_eq_false (fun q => Bool.false_ne_true (HR.out.2 ⟨j, hj, q⟩))
    clear hj HI H HK q2 HB HR
    generalize k (j * 4) = n0 at *
    generalize k (j * 4 + 1) = n1 at *
    generalize k (j * 4 + 2) = n2 at *
    generalize k (j * 4 + 3) = n3 at *
    subst hd
    go_wp2
    go_ret
    exact ⟨rfl, HB2.out⟩
  · have HB2 : Hid (Below w.heap.size w (w2.alloc (.cells #[.int .i64 0, .int .i64 0, .int .i64 0, .int .i64 0] 84))) := (HB.out.trans (q2.mono HB.out.size)).trans ((below_alloc w2 _).mono (Nat.le_trans HB.out.size q2.size))
    obtain rfl : r = false := by
      cases r with
      | false => rfl
      | true => obtain ⟨i, h1, _⟩ := HR.out.1 rfl; exact absurd h1 (hj i)
    clear hj HI H HK q2 HB HR
    go_wp2
    go_ret
    exact ⟨rfl, HB2.out⟩
/-- What hasRoom sees: the columns' block, the lock's own block at L, the map and how many entries it has. -/
def RoomE (w : World) (b g N : Nat) (m : Int → Int → Option Int) (D : DataW Unit) (u1 : Value) (a s kd : Int) (x : World) : Prop :=
  (x.cell? ⟨b, 0, none⟩ = some (.map (some g)) ∧ x.cell? ⟨b, 1, none⟩ = some u1) ∧ (x.cell? ⟨w.heap.size, 0, none⟩ = some (.int .i64 a) ∧ x.cell? ⟨w.heap.size, 1, none⟩ = some (.int .i64 s) ∧ x.cell? ⟨w.heap.size, 2, none⟩ = some (.int .i64 kd)) ∧ PM x g N m ∧ x.ownsMap Tryz.prog 112 (plainElem Tryz.prog 2) g N D ∧ Below w.heap.size w x
theorem RoomE.drew {w x : World} {b g N : Nat} {m : Int → Int → Option Int} {D : DataW Unit} {u1 : Value} {a s kd : Int} (h : RoomE w b g N m D u1 a s kd x) : RoomE w b g N m D u1 a s kd x.drew := ⟨h.1, h.2.1, h.2.2.1.kept rfl, h.2.2.2.1, h.2.2.2.2.drew⟩
set_option maxRecDepth 100000 in
set_option maxHeartbeats 4000000 in
theorem hasRoom_full (B b N : Nat) (m : Int → Int → Option Int) (nl : Nat) (l : Nat → Int) (nw : Nat) (k : Nat → Int) (g : Nat) (u1 u2 : Value) (a s kd pr un : Int) (w : World) (h : Cols w B b N m nl l nw k g u1 u2) (hwa : Wf a) (hws : Wf s) (nc : Nat) (c : Nat → Int) (hm : MapRow m nc c) (ok : Bool) (hok : (m a s).isSome = ok) (hn : 200 ≤ nl) :
    Calls Tryz.prog 63 #[.pointer (some ⟨b, 0, none⟩), .agg #[.int .i64 a, .int .i64 s, .int .i64 kd, .int .i64 pr, .int .i64 un]] w fun e w' => e = .returned (.bool false) ∧ Below w.heap.size w w' := by
  obtain ⟨a1, c1, rfl⟩ := h.2.2.2.2.1.form
  obtain ⟨D, hD, hsz⟩ := h.2.2.2.1.countRow hm
  obtain ⟨⟨t0, t1, t2⟩, _⟩ := h.2.2.1
  have hlb := lt_cell t0
  have HE : Hid (RoomE w b g N m D (.slice a1 nl c1) a s kd (w.alloc (.cells #[.int .i64 a, .int .i64 s, .int .i64 kd, .int .i64 pr, .int .i64 un] 53))) := ⟨⟨((below_alloc w _).cell hlb).trans t0, ((below_alloc w _).cell hlb).trans t1⟩, ⟨World.cell?_alloc_mark w _ _ _ 0, World.cell?_alloc_mark w _ _ _ 1, World.cell?_alloc_mark w _ _ _ 2⟩, h.2.2.2.1.alloc _, by
    obtain ⟨es, clock, hb, r⟩ := hD
    exact ⟨es, clock, ((below_alloc w _).block _ h.2.2.2.1.lt).trans hb, r⟩, below_alloc _ _⟩
  clear h hD t0 t1 t2 hlb hm
  go_enter Tryz.func63, Tryz.ntmps63
  go_upto_region 1 with fail
  refine wp_region_held_drew (S := RoomE w b g N m D (.slice a1 nl c1) a s kd) (by kernel_rfl) HE.out.drew (fun hS => ?_)
  clear HE
  refine wpAnyH_take (i := 0) (v := ?_) rfl (by kernel_rfl) (by kernel_rfl) (by kernel_rfl) (fun _ _ _ h => h) (Or.inl ⟨by kernel_rfl, ?_⟩) hS ?_
  rotate_left
  · intro wx hx
    obtain ⟨⟨hx0, hx1⟩, ⟨hx2, hx3, hx4⟩, hx5, hx6, _⟩ := hx
    have hxl := hx5.look hwa hws
    have hxn := hx6.len Tryz.underlying92 3
    rw [hok] at hxl
    rw [hsz] at hxn
    clear hx5 hx6
    go_simp
    try with_reducible rfl
  refine wpAnyH_take (i := 1) (v := ?_) rfl (by kernel_rfl) (by kernel_rfl) (by kernel_rfl) (fun _ _ _ h => h) (Or.inl ⟨by kernel_rfl, ?_⟩) hS ?_
  rotate_left
  · intro wx hx
    obtain ⟨⟨hx0, hx1⟩, ⟨hx2, hx3, hx4⟩, hx5, hx6, _⟩ := hx
    have hxl := hx5.look hwa hws
    have hxn := hx6.len Tryz.underlying92 3
    rw [hok] at hxl
    rw [hsz] at hxn
    clear hx5 hx6
    go_simp
    try with_reducible rfl
  refine wpAnyH_take (i := 2) (v := ?_) rfl (by kernel_rfl) (by kernel_rfl) (by kernel_rfl) (fun _ _ _ h => h) (Or.inl ⟨by kernel_rfl, ?_⟩) hS ?_
  rotate_left
  · intro wx hx
    obtain ⟨⟨hx0, hx1⟩, ⟨hx2, hx3, hx4⟩, hx5, hx6, _⟩ := hx
    have hxl := hx5.look hwa hws
    have hxn := hx6.len Tryz.underlying92 3
    rw [hok] at hxl
    rw [hsz] at hxn
    clear hx5 hx6
    go_simp
    try with_reducible rfl
  refine wpAnyH_take (i := 3) (v := ?_) rfl (by kernel_rfl) (by kernel_rfl) (by kernel_rfl) (fun _ _ _ h => h) (Or.inl ⟨by kernel_rfl, ?_⟩) hS ?_
  rotate_left
  · intro wx hx
    obtain ⟨⟨hx0, hx1⟩, ⟨hx2, hx3, hx4⟩, hx5, hx6, _⟩ := hx
    have hxl := hx5.look hwa hws
    have hxn := hx6.len Tryz.underlying92 3
    rw [hok] at hxl
    rw [hsz] at hxn
    clear hx5 hx6
    go_simp
    try with_reducible rfl
  refine wpAnyH_take (i := 4) (v := ?_) rfl (by kernel_rfl) (by kernel_rfl) (by kernel_rfl) (fun _ _ _ h => h) (Or.inl ⟨by kernel_rfl, ?_⟩) hS ?_
  rotate_left
  · intro wx hx
    obtain ⟨⟨hx0, hx1⟩, ⟨hx2, hx3, hx4⟩, hx5, hx6, _⟩ := hx
    have hxl := hx5.look hwa hws
    have hxn := hx6.len Tryz.underlying92 3
    rw [hok] at hxl
    rw [hsz] at hxn
    clear hx5 hx6
    go_simp
    try with_reducible rfl
  refine wpAnyH_take (i := 5) (v := ?_) rfl (by kernel_rfl) (by kernel_rfl) (by kernel_rfl) (fun _ _ _ h => h) (Or.inl ⟨by kernel_rfl, ?_⟩) hS ?_
  rotate_left
  · intro wx hx
    obtain ⟨⟨hx0, hx1⟩, ⟨hx2, hx3, hx4⟩, hx5, hx6, _⟩ := hx
    have hxl := hx5.look hwa hws
    have hxn := hx6.len Tryz.underlying92 3
    rw [hok] at hxl
    rw [hsz] at hxn
    clear hx5 hx6
    go_simp
    try with_reducible rfl
  refine wpAnyH_take (i := 6) (v := ?_) rfl (by kernel_rfl) (by kernel_rfl) (by kernel_rfl) (fun _ _ _ h => h) (Or.inl ⟨by kernel_rfl, ?_⟩) hS ?_
  rotate_left
  · intro wx hx
    obtain ⟨⟨hx0, hx1⟩, ⟨hx2, hx3, hx4⟩, hx5, hx6, _⟩ := hx
    have hxl := hx5.look hwa hws
    have hxn := hx6.len Tryz.underlying92 3
    rw [hok] at hxl
    rw [hsz] at hxn
    clear hx5 hx6
    go_simp
    try with_reducible rfl
  refine wpAnyH_take (i := 7) (v := ?_) rfl (by kernel_rfl) (by kernel_rfl) (by kernel_rfl) (fun _ _ _ h => h) (Or.inl ⟨by kernel_rfl, ?_⟩) hS ?_
  rotate_left
  · intro wx hx
    obtain ⟨⟨hx0, hx1⟩, ⟨hx2, hx3, hx4⟩, hx5, hx6, _⟩ := hx
    have hxl := hx5.look hwa hws
    have hxn := hx6.len Tryz.underlying92 3
    rw [hok] at hxl
    rw [hsz] at hxn
    clear hx5 hx6
    go_simp
    try with_reducible rfl
  refine wpAnyH_take (i := 8) (v := ?_) rfl (by kernel_rfl) (by kernel_rfl) (by kernel_rfl) (fun _ _ _ h => h) (Or.inl ⟨by kernel_rfl, ?_⟩) hS ?_
  rotate_left
  · intro wx hx
    obtain ⟨⟨hx0, hx1⟩, ⟨hx2, hx3, hx4⟩, hx5, hx6, _⟩ := hx
    have hxl := hx5.look hwa hws
    have hxn := hx6.len Tryz.underlying92 3
    rw [hok] at hxl
    rw [hsz] at hxn
    clear hx5 hx6
    go_simp
    try with_reducible rfl
  refine wpAnyH_take (i := 9) (v := ?_) rfl (by kernel_rfl) (by kernel_rfl) (by kernel_rfl) (fun _ _ _ h => h) (Or.inl ⟨by kernel_rfl, ?_⟩) hS ?_
  rotate_left
  · intro wx hx
    obtain ⟨⟨hx0, hx1⟩, ⟨hx2, hx3, hx4⟩, hx5, hx6, _⟩ := hx
    have hxl := hx5.look hwa hws
    have hxn := hx6.len Tryz.underlying92 3
    rw [hok] at hxl
    rw [hsz] at hxn
    clear hx5 hx6
    go_simp
    try with_reducible rfl
  refine wpAnyH_take (i := 10) (v := ?_) rfl (by kernel_rfl) (by kernel_rfl) (by kernel_rfl) (fun _ _ _ h => h) (Or.inl ⟨by kernel_rfl, ?_⟩) hS ?_
  rotate_left
  · intro wx hx
    obtain ⟨⟨hx0, hx1⟩, ⟨hx2, hx3, hx4⟩, hx5, hx6, _⟩ := hx
    have hxl := hx5.look hwa hws
    have hxn := hx6.len Tryz.underlying92 3
    rw [hok] at hxl
    rw [hsz] at hxn
    clear hx5 hx6
    go_simp
    try with_reducible rfl
  refine wpAnyH_take (i := 11) (v := ?_) rfl (by kernel_rfl) (by kernel_rfl) (by kernel_rfl) (fun _ _ _ h => h) (Or.inl ⟨by kernel_rfl, ?_⟩) hS ?_
  rotate_left
  · intro wx hx
    obtain ⟨⟨hx0, hx1⟩, ⟨hx2, hx3, hx4⟩, hx5, hx6, _⟩ := hx
    have hxl := hx5.look hwa hws
    have hxn := hx6.len Tryz.underlying92 3
    rw [hok] at hxl
    rw [hsz] at hxn
    clear hx5 hx6
    go_simp
    try with_reducible rfl
  refine wpAnyH_take (i := 12) (v := ?_) rfl (by kernel_rfl) (by kernel_rfl) (by kernel_rfl) (fun _ _ _ h => h) (Or.inl ⟨by kernel_rfl, ?_⟩) hS ?_
  rotate_left
  · intro wx hx
    obtain ⟨⟨hx0, hx1⟩, ⟨hx2, hx3, hx4⟩, hx5, hx6, _⟩ := hx
    have hxl := hx5.look hwa hws
    have hxn := hx6.len Tryz.underlying92 3
    rw [hok] at hxl
    rw [hsz] at hxn
    clear hx5 hx6
    go_simp
    try with_reducible rfl
  refine wpAnyH_take (i := 13) (v := ?_) rfl (by kernel_rfl) (by kernel_rfl) (by kernel_rfl) (fun _ _ _ h => h) (Or.inl ⟨by kernel_rfl, ?_⟩) hS ?_
  rotate_left
  · intro wx hx
    obtain ⟨⟨hx0, hx1⟩, ⟨hx2, hx3, hx4⟩, hx5, hx6, _⟩ := hx
    have hxl := hx5.look hwa hws
    have hxn := hx6.len Tryz.underlying92 3
    rw [hok] at hxl
    rw [hsz] at hxn
    clear hx5 hx6
    go_simp
    try with_reducible rfl
  refine wpAnyH_take (i := 14) (v := ?_) rfl (by kernel_rfl) (by kernel_rfl) (by kernel_rfl) (fun _ _ _ h => h) (Or.inl ⟨by kernel_rfl, ?_⟩) hS ?_
  rotate_left
  · intro wx hx
    obtain ⟨⟨hx0, hx1⟩, ⟨hx2, hx3, hx4⟩, hx5, hx6, _⟩ := hx
    have hxl := hx5.look hwa hws
    have hxn := hx6.len Tryz.underlying92 3
    rw [hok] at hxl
    rw [hsz] at hxn
    clear hx5 hx6
    go_simp
    try with_reducible rfl
  refine wpAnyH_done (by kernel_rfl) ?_ _
  go_simp
  have dn : decide ((nl : Int) < 200) = false := decide_eq_false (by omega)
  by_cases hk1 : kd = 1
  · subst hk1
    have HB : Hid (Below w.heap.size w _) := hS.2.2.2.2
    obtain ⟨⟨hx0, hx1⟩, ⟨hx2, hx3, hx4⟩, _⟩ := hS
    go_wp2
    go_ret
    exact ⟨rfl, HB.out⟩
  · have dk : (kd == 1) = false := beq_eq_false_iff_ne.2 hk1
    clear hk1
    have HB : Hid (Below w.heap.size w _) := hS.2.2.2.2
    obtain ⟨⟨hx0, hx1⟩, ⟨hx2, hx3, hx4⟩, _⟩ := hS
    go_wp2
    go_ret
    exact ⟨rfl, HB.out⟩
set_option maxRecDepth 100000 in
set_option maxHeartbeats 4000000 in
theorem hasRoom_free (B b N : Nat) (m : Int → Int → Option Int) (nl : Nat) (l : Nat → Int) (nw : Nat) (k : Nat → Int) (g : Nat) (u1 u2 : Value) (a s kd pr un : Int) (w : World) (h : Cols w B b N m nl l nw k g u1 u2) (hwa : Wf a) (hws : Wf s) (nc : Nat) (c : Nat → Int) (hm : MapRow m nc c) (ok : Bool) (hok : (m a s).isSome = ok) (hn : nl < 200) (hf : kd ≠ 1 ∨ ok = true) :
    Calls Tryz.prog 63 #[.pointer (some ⟨b, 0, none⟩), .agg #[.int .i64 a, .int .i64 s, .int .i64 kd, .int .i64 pr, .int .i64 un]] w fun e w' => e = .returned (.bool true) ∧ Below w.heap.size w w' := by
  obtain ⟨a1, c1, rfl⟩ := h.2.2.2.2.1.form
  obtain ⟨D, hD, hsz⟩ := h.2.2.2.1.countRow hm
  obtain ⟨⟨t0, t1, t2⟩, _⟩ := h.2.2.1
  have hlb := lt_cell t0
  have HE : Hid (RoomE w b g N m D (.slice a1 nl c1) a s kd (w.alloc (.cells #[.int .i64 a, .int .i64 s, .int .i64 kd, .int .i64 pr, .int .i64 un] 53))) := ⟨⟨((below_alloc w _).cell hlb).trans t0, ((below_alloc w _).cell hlb).trans t1⟩, ⟨World.cell?_alloc_mark w _ _ _ 0, World.cell?_alloc_mark w _ _ _ 1, World.cell?_alloc_mark w _ _ _ 2⟩, h.2.2.2.1.alloc _, by
    obtain ⟨es, clock, hb, r⟩ := hD
    exact ⟨es, clock, ((below_alloc w _).block _ h.2.2.2.1.lt).trans hb, r⟩, below_alloc _ _⟩
  clear h hD t0 t1 t2 hlb hm
  go_enter Tryz.func63, Tryz.ntmps63
  go_upto_region 1 with fail
  refine wp_region_held_drew (S := RoomE w b g N m D (.slice a1 nl c1) a s kd) (by kernel_rfl) HE.out.drew (fun hS => ?_)
  clear HE
  refine wpAnyH_take (i := 0) (v := ?_) rfl (by kernel_rfl) (by kernel_rfl) (by kernel_rfl) (fun _ _ _ h => h) (Or.inl ⟨by kernel_rfl, ?_⟩) hS ?_
  rotate_left
  · intro wx hx
    obtain ⟨⟨hx0, hx1⟩, ⟨hx2, hx3, hx4⟩, hx5, hx6, _⟩ := hx
    have hxl := hx5.look hwa hws
    have hxn := hx6.len Tryz.underlying92 3
    rw [hok] at hxl
    rw [hsz] at hxn
    clear hx5 hx6
    go_simp
    try with_reducible rfl
  refine wpAnyH_take (i := 1) (v := ?_) rfl (by kernel_rfl) (by kernel_rfl) (by kernel_rfl) (fun _ _ _ h => h) (Or.inl ⟨by kernel_rfl, ?_⟩) hS ?_
  rotate_left
  · intro wx hx
    obtain ⟨⟨hx0, hx1⟩, ⟨hx2, hx3, hx4⟩, hx5, hx6, _⟩ := hx
    have hxl := hx5.look hwa hws
    have hxn := hx6.len Tryz.underlying92 3
    rw [hok] at hxl
    rw [hsz] at hxn
    clear hx5 hx6
    go_simp
    try with_reducible rfl
  refine wpAnyH_take (i := 2) (v := ?_) rfl (by kernel_rfl) (by kernel_rfl) (by kernel_rfl) (fun _ _ _ h => h) (Or.inl ⟨by kernel_rfl, ?_⟩) hS ?_
  rotate_left
  · intro wx hx
    obtain ⟨⟨hx0, hx1⟩, ⟨hx2, hx3, hx4⟩, hx5, hx6, _⟩ := hx
    have hxl := hx5.look hwa hws
    have hxn := hx6.len Tryz.underlying92 3
    rw [hok] at hxl
    rw [hsz] at hxn
    clear hx5 hx6
    go_simp
    try with_reducible rfl
  refine wpAnyH_take (i := 3) (v := ?_) rfl (by kernel_rfl) (by kernel_rfl) (by kernel_rfl) (fun _ _ _ h => h) (Or.inl ⟨by kernel_rfl, ?_⟩) hS ?_
  rotate_left
  · intro wx hx
    obtain ⟨⟨hx0, hx1⟩, ⟨hx2, hx3, hx4⟩, hx5, hx6, _⟩ := hx
    have hxl := hx5.look hwa hws
    have hxn := hx6.len Tryz.underlying92 3
    rw [hok] at hxl
    rw [hsz] at hxn
    clear hx5 hx6
    go_simp
    try with_reducible rfl
  refine wpAnyH_take (i := 4) (v := ?_) rfl (by kernel_rfl) (by kernel_rfl) (by kernel_rfl) (fun _ _ _ h => h) (Or.inl ⟨by kernel_rfl, ?_⟩) hS ?_
  rotate_left
  · intro wx hx
    obtain ⟨⟨hx0, hx1⟩, ⟨hx2, hx3, hx4⟩, hx5, hx6, _⟩ := hx
    have hxl := hx5.look hwa hws
    have hxn := hx6.len Tryz.underlying92 3
    rw [hok] at hxl
    rw [hsz] at hxn
    clear hx5 hx6
    go_simp
    try with_reducible rfl
  refine wpAnyH_take (i := 5) (v := ?_) rfl (by kernel_rfl) (by kernel_rfl) (by kernel_rfl) (fun _ _ _ h => h) (Or.inl ⟨by kernel_rfl, ?_⟩) hS ?_
  rotate_left
  · intro wx hx
    obtain ⟨⟨hx0, hx1⟩, ⟨hx2, hx3, hx4⟩, hx5, hx6, _⟩ := hx
    have hxl := hx5.look hwa hws
    have hxn := hx6.len Tryz.underlying92 3
    rw [hok] at hxl
    rw [hsz] at hxn
    clear hx5 hx6
    go_simp
    try with_reducible rfl
  refine wpAnyH_take (i := 6) (v := ?_) rfl (by kernel_rfl) (by kernel_rfl) (by kernel_rfl) (fun _ _ _ h => h) (Or.inl ⟨by kernel_rfl, ?_⟩) hS ?_
  rotate_left
  · intro wx hx
    obtain ⟨⟨hx0, hx1⟩, ⟨hx2, hx3, hx4⟩, hx5, hx6, _⟩ := hx
    have hxl := hx5.look hwa hws
    have hxn := hx6.len Tryz.underlying92 3
    rw [hok] at hxl
    rw [hsz] at hxn
    clear hx5 hx6
    go_simp
    try with_reducible rfl
  refine wpAnyH_take (i := 7) (v := ?_) rfl (by kernel_rfl) (by kernel_rfl) (by kernel_rfl) (fun _ _ _ h => h) (Or.inl ⟨by kernel_rfl, ?_⟩) hS ?_
  rotate_left
  · intro wx hx
    obtain ⟨⟨hx0, hx1⟩, ⟨hx2, hx3, hx4⟩, hx5, hx6, _⟩ := hx
    have hxl := hx5.look hwa hws
    have hxn := hx6.len Tryz.underlying92 3
    rw [hok] at hxl
    rw [hsz] at hxn
    clear hx5 hx6
    go_simp
    try with_reducible rfl
  refine wpAnyH_take (i := 8) (v := ?_) rfl (by kernel_rfl) (by kernel_rfl) (by kernel_rfl) (fun _ _ _ h => h) (Or.inl ⟨by kernel_rfl, ?_⟩) hS ?_
  rotate_left
  · intro wx hx
    obtain ⟨⟨hx0, hx1⟩, ⟨hx2, hx3, hx4⟩, hx5, hx6, _⟩ := hx
    have hxl := hx5.look hwa hws
    have hxn := hx6.len Tryz.underlying92 3
    rw [hok] at hxl
    rw [hsz] at hxn
    clear hx5 hx6
    go_simp
    try with_reducible rfl
  refine wpAnyH_take (i := 9) (v := ?_) rfl (by kernel_rfl) (by kernel_rfl) (by kernel_rfl) (fun _ _ _ h => h) (Or.inl ⟨by kernel_rfl, ?_⟩) hS ?_
  rotate_left
  · intro wx hx
    obtain ⟨⟨hx0, hx1⟩, ⟨hx2, hx3, hx4⟩, hx5, hx6, _⟩ := hx
    have hxl := hx5.look hwa hws
    have hxn := hx6.len Tryz.underlying92 3
    rw [hok] at hxl
    rw [hsz] at hxn
    clear hx5 hx6
    go_simp
    try with_reducible rfl
  refine wpAnyH_take (i := 10) (v := ?_) rfl (by kernel_rfl) (by kernel_rfl) (by kernel_rfl) (fun _ _ _ h => h) (Or.inl ⟨by kernel_rfl, ?_⟩) hS ?_
  rotate_left
  · intro wx hx
    obtain ⟨⟨hx0, hx1⟩, ⟨hx2, hx3, hx4⟩, hx5, hx6, _⟩ := hx
    have hxl := hx5.look hwa hws
    have hxn := hx6.len Tryz.underlying92 3
    rw [hok] at hxl
    rw [hsz] at hxn
    clear hx5 hx6
    go_simp
    try with_reducible rfl
  refine wpAnyH_take (i := 11) (v := ?_) rfl (by kernel_rfl) (by kernel_rfl) (by kernel_rfl) (fun _ _ _ h => h) (Or.inl ⟨by kernel_rfl, ?_⟩) hS ?_
  rotate_left
  · intro wx hx
    obtain ⟨⟨hx0, hx1⟩, ⟨hx2, hx3, hx4⟩, hx5, hx6, _⟩ := hx
    have hxl := hx5.look hwa hws
    have hxn := hx6.len Tryz.underlying92 3
    rw [hok] at hxl
    rw [hsz] at hxn
    clear hx5 hx6
    go_simp
    try with_reducible rfl
  refine wpAnyH_take (i := 12) (v := ?_) rfl (by kernel_rfl) (by kernel_rfl) (by kernel_rfl) (fun _ _ _ h => h) (Or.inl ⟨by kernel_rfl, ?_⟩) hS ?_
  rotate_left
  · intro wx hx
    obtain ⟨⟨hx0, hx1⟩, ⟨hx2, hx3, hx4⟩, hx5, hx6, _⟩ := hx
    have hxl := hx5.look hwa hws
    have hxn := hx6.len Tryz.underlying92 3
    rw [hok] at hxl
    rw [hsz] at hxn
    clear hx5 hx6
    go_simp
    try with_reducible rfl
  refine wpAnyH_take (i := 13) (v := ?_) rfl (by kernel_rfl) (by kernel_rfl) (by kernel_rfl) (fun _ _ _ h => h) (Or.inl ⟨by kernel_rfl, ?_⟩) hS ?_
  rotate_left
  · intro wx hx
    obtain ⟨⟨hx0, hx1⟩, ⟨hx2, hx3, hx4⟩, hx5, hx6, _⟩ := hx
    have hxl := hx5.look hwa hws
    have hxn := hx6.len Tryz.underlying92 3
    rw [hok] at hxl
    rw [hsz] at hxn
    clear hx5 hx6
    go_simp
    try with_reducible rfl
  refine wpAnyH_take (i := 14) (v := ?_) rfl (by kernel_rfl) (by kernel_rfl) (by kernel_rfl) (fun _ _ _ h => h) (Or.inl ⟨by kernel_rfl, ?_⟩) hS ?_
  rotate_left
  · intro wx hx
    obtain ⟨⟨hx0, hx1⟩, ⟨hx2, hx3, hx4⟩, hx5, hx6, _⟩ := hx
    have hxl := hx5.look hwa hws
    have hxn := hx6.len Tryz.underlying92 3
    rw [hok] at hxl
    rw [hsz] at hxn
    clear hx5 hx6
    go_simp
    try with_reducible rfl
  refine wpAnyH_done (by kernel_rfl) ?_ _
  go_simp
  have dn : decide ((nl : Int) < 200) = true := decide_eq_true (by omega)
  by_cases hk1 : kd = 1
  · obtain rfl : ok = true := hf.resolve_left (fun q => q hk1)
    clear hf
    subst hk1
    have HB : Hid (Below w.heap.size w _) := hS.2.2.2.2
    obtain ⟨⟨hx0, hx1⟩, ⟨hx2, hx3, hx4⟩, _⟩ := hS
    go_wp2
    go_ret
    exact ⟨rfl, HB.out⟩
  · have dk : (kd == 1) = false := beq_eq_false_iff_ne.2 hk1
    clear hk1 hf
    have HB : Hid (Below w.heap.size w _) := hS.2.2.2.2
    obtain ⟨⟨hx0, hx1⟩, ⟨hx2, hx3, hx4⟩, _⟩ := hS
    go_wp2
    go_ret
    exact ⟨rfl, HB.out⟩
set_option maxRecDepth 100000 in
set_option maxHeartbeats 4000000 in
theorem hasRoom_put (B b N : Nat) (m : Int → Int → Option Int) (nl : Nat) (l : Nat → Int) (nw : Nat) (k : Nat → Int) (g : Nat) (u1 u2 : Value) (a s kd pr un : Int) (w : World) (h : Cols w B b N m nl l nw k g u1 u2) (hwa : Wf a) (hws : Wf s) (nc : Nat) (c : Nat → Int) (hm : MapRow m nc c) (ok : Bool) (hok : (m a s).isSome = ok) (hn : nl < 200) (hk1 : kd = 1) (ho : ok = false) :
    Calls Tryz.prog 63 #[.pointer (some ⟨b, 0, none⟩), .agg #[.int .i64 a, .int .i64 s, .int .i64 kd, .int .i64 pr, .int .i64 un]] w fun e w' => e = .returned (.bool (decide (nc < 200))) ∧ Below w.heap.size w w' := by
  have HK : Hid (kd = 1) := hk1
  subst ho
  clear hk1
  have hnc : decide ((nc : Int) < 200) = decide (nc < 200) := by
    by_cases q : nc < 200
    · rw [decide_eq_true q]; exact decide_eq_true (by omega)
    · rw [decide_eq_false q]; exact decide_eq_false (by omega)
  rw [← hnc]
  clear hnc
  obtain ⟨a1, c1, rfl⟩ := h.2.2.2.2.1.form
  obtain ⟨D, hD, hsz⟩ := h.2.2.2.1.countRow hm
  obtain ⟨⟨t0, t1, t2⟩, _⟩ := h.2.2.1
  have hlb := lt_cell t0
  have HE : Hid (RoomE w b g N m D (.slice a1 nl c1) a s kd (w.alloc (.cells #[.int .i64 a, .int .i64 s, .int .i64 kd, .int .i64 pr, .int .i64 un] 53))) := ⟨⟨((below_alloc w _).cell hlb).trans t0, ((below_alloc w _).cell hlb).trans t1⟩, ⟨World.cell?_alloc_mark w _ _ _ 0, World.cell?_alloc_mark w _ _ _ 1, World.cell?_alloc_mark w _ _ _ 2⟩, h.2.2.2.1.alloc _, by
    obtain ⟨es, clock, hb, r⟩ := hD
    exact ⟨es, clock, ((below_alloc w _).block _ h.2.2.2.1.lt).trans hb, r⟩, below_alloc _ _⟩
  clear h hD t0 t1 t2 hlb hm
  go_enter Tryz.func63, Tryz.ntmps63
  go_upto_region 1 with fail
  refine wp_region_held_drew (S := RoomE w b g N m D (.slice a1 nl c1) a s kd) (by kernel_rfl) HE.out.drew (fun hS => ?_)
  clear HE
  refine wpAnyH_take (i := 0) (v := ?_) rfl (by kernel_rfl) (by kernel_rfl) (by kernel_rfl) (fun _ _ _ h => h) (Or.inl ⟨by kernel_rfl, ?_⟩) hS ?_
  rotate_left
  · intro wx hx
    obtain ⟨⟨hx0, hx1⟩, ⟨hx2, hx3, hx4⟩, hx5, hx6, _⟩ := hx
    have hxl := hx5.look hwa hws
    have hxn := hx6.len Tryz.underlying92 3
    rw [hok] at hxl
    rw [hsz] at hxn
    clear hx5 hx6
    go_simp
    try with_reducible rfl
  refine wpAnyH_take (i := 1) (v := ?_) rfl (by kernel_rfl) (by kernel_rfl) (by kernel_rfl) (fun _ _ _ h => h) (Or.inl ⟨by kernel_rfl, ?_⟩) hS ?_
  rotate_left
  · intro wx hx
    obtain ⟨⟨hx0, hx1⟩, ⟨hx2, hx3, hx4⟩, hx5, hx6, _⟩ := hx
    have hxl := hx5.look hwa hws
    have hxn := hx6.len Tryz.underlying92 3
    rw [hok] at hxl
    rw [hsz] at hxn
    clear hx5 hx6
    go_simp
    try with_reducible rfl
  refine wpAnyH_take (i := 2) (v := ?_) rfl (by kernel_rfl) (by kernel_rfl) (by kernel_rfl) (fun _ _ _ h => h) (Or.inl ⟨by kernel_rfl, ?_⟩) hS ?_
  rotate_left
  · intro wx hx
    obtain ⟨⟨hx0, hx1⟩, ⟨hx2, hx3, hx4⟩, hx5, hx6, _⟩ := hx
    have hxl := hx5.look hwa hws
    have hxn := hx6.len Tryz.underlying92 3
    rw [hok] at hxl
    rw [hsz] at hxn
    clear hx5 hx6
    go_simp
    try with_reducible rfl
  refine wpAnyH_take (i := 3) (v := ?_) rfl (by kernel_rfl) (by kernel_rfl) (by kernel_rfl) (fun _ _ _ h => h) (Or.inl ⟨by kernel_rfl, ?_⟩) hS ?_
  rotate_left
  · intro wx hx
    obtain ⟨⟨hx0, hx1⟩, ⟨hx2, hx3, hx4⟩, hx5, hx6, _⟩ := hx
    have hxl := hx5.look hwa hws
    have hxn := hx6.len Tryz.underlying92 3
    rw [hok] at hxl
    rw [hsz] at hxn
    clear hx5 hx6
    go_simp
    try with_reducible rfl
  refine wpAnyH_take (i := 4) (v := ?_) rfl (by kernel_rfl) (by kernel_rfl) (by kernel_rfl) (fun _ _ _ h => h) (Or.inl ⟨by kernel_rfl, ?_⟩) hS ?_
  rotate_left
  · intro wx hx
    obtain ⟨⟨hx0, hx1⟩, ⟨hx2, hx3, hx4⟩, hx5, hx6, _⟩ := hx
    have hxl := hx5.look hwa hws
    have hxn := hx6.len Tryz.underlying92 3
    rw [hok] at hxl
    rw [hsz] at hxn
    clear hx5 hx6
    go_simp
    try with_reducible rfl
  refine wpAnyH_take (i := 5) (v := ?_) rfl (by kernel_rfl) (by kernel_rfl) (by kernel_rfl) (fun _ _ _ h => h) (Or.inl ⟨by kernel_rfl, ?_⟩) hS ?_
  rotate_left
  · intro wx hx
    obtain ⟨⟨hx0, hx1⟩, ⟨hx2, hx3, hx4⟩, hx5, hx6, _⟩ := hx
    have hxl := hx5.look hwa hws
    have hxn := hx6.len Tryz.underlying92 3
    rw [hok] at hxl
    rw [hsz] at hxn
    clear hx5 hx6
    go_simp
    try with_reducible rfl
  refine wpAnyH_take (i := 6) (v := ?_) rfl (by kernel_rfl) (by kernel_rfl) (by kernel_rfl) (fun _ _ _ h => h) (Or.inl ⟨by kernel_rfl, ?_⟩) hS ?_
  rotate_left
  · intro wx hx
    obtain ⟨⟨hx0, hx1⟩, ⟨hx2, hx3, hx4⟩, hx5, hx6, _⟩ := hx
    have hxl := hx5.look hwa hws
    have hxn := hx6.len Tryz.underlying92 3
    rw [hok] at hxl
    rw [hsz] at hxn
    clear hx5 hx6
    go_simp
    try with_reducible rfl
  refine wpAnyH_take (i := 7) (v := ?_) rfl (by kernel_rfl) (by kernel_rfl) (by kernel_rfl) (fun _ _ _ h => h) (Or.inl ⟨by kernel_rfl, ?_⟩) hS ?_
  rotate_left
  · intro wx hx
    obtain ⟨⟨hx0, hx1⟩, ⟨hx2, hx3, hx4⟩, hx5, hx6, _⟩ := hx
    have hxl := hx5.look hwa hws
    have hxn := hx6.len Tryz.underlying92 3
    rw [hok] at hxl
    rw [hsz] at hxn
    clear hx5 hx6
    go_simp
    try with_reducible rfl
  refine wpAnyH_take (i := 8) (v := ?_) rfl (by kernel_rfl) (by kernel_rfl) (by kernel_rfl) (fun _ _ _ h => h) (Or.inl ⟨by kernel_rfl, ?_⟩) hS ?_
  rotate_left
  · intro wx hx
    obtain ⟨⟨hx0, hx1⟩, ⟨hx2, hx3, hx4⟩, hx5, hx6, _⟩ := hx
    have hxl := hx5.look hwa hws
    have hxn := hx6.len Tryz.underlying92 3
    rw [hok] at hxl
    rw [hsz] at hxn
    clear hx5 hx6
    go_simp
    try with_reducible rfl
  refine wpAnyH_take (i := 9) (v := ?_) rfl (by kernel_rfl) (by kernel_rfl) (by kernel_rfl) (fun _ _ _ h => h) (Or.inl ⟨by kernel_rfl, ?_⟩) hS ?_
  rotate_left
  · intro wx hx
    obtain ⟨⟨hx0, hx1⟩, ⟨hx2, hx3, hx4⟩, hx5, hx6, _⟩ := hx
    have hxl := hx5.look hwa hws
    have hxn := hx6.len Tryz.underlying92 3
    rw [hok] at hxl
    rw [hsz] at hxn
    clear hx5 hx6
    go_simp
    try with_reducible rfl
  refine wpAnyH_take (i := 10) (v := ?_) rfl (by kernel_rfl) (by kernel_rfl) (by kernel_rfl) (fun _ _ _ h => h) (Or.inl ⟨by kernel_rfl, ?_⟩) hS ?_
  rotate_left
  · intro wx hx
    obtain ⟨⟨hx0, hx1⟩, ⟨hx2, hx3, hx4⟩, hx5, hx6, _⟩ := hx
    have hxl := hx5.look hwa hws
    have hxn := hx6.len Tryz.underlying92 3
    rw [hok] at hxl
    rw [hsz] at hxn
    clear hx5 hx6
    go_simp
    try with_reducible rfl
  refine wpAnyH_take (i := 11) (v := ?_) rfl (by kernel_rfl) (by kernel_rfl) (by kernel_rfl) (fun _ _ _ h => h) (Or.inl ⟨by kernel_rfl, ?_⟩) hS ?_
  rotate_left
  · intro wx hx
    obtain ⟨⟨hx0, hx1⟩, ⟨hx2, hx3, hx4⟩, hx5, hx6, _⟩ := hx
    have hxl := hx5.look hwa hws
    have hxn := hx6.len Tryz.underlying92 3
    rw [hok] at hxl
    rw [hsz] at hxn
    clear hx5 hx6
    go_simp
    try with_reducible rfl
  refine wpAnyH_take (i := 12) (v := ?_) rfl (by kernel_rfl) (by kernel_rfl) (by kernel_rfl) (fun _ _ _ h => h) (Or.inl ⟨by kernel_rfl, ?_⟩) hS ?_
  rotate_left
  · intro wx hx
    obtain ⟨⟨hx0, hx1⟩, ⟨hx2, hx3, hx4⟩, hx5, hx6, _⟩ := hx
    have hxl := hx5.look hwa hws
    have hxn := hx6.len Tryz.underlying92 3
    rw [hok] at hxl
    rw [hsz] at hxn
    clear hx5 hx6
    go_simp
    try with_reducible rfl
  refine wpAnyH_take (i := 13) (v := ?_) rfl (by kernel_rfl) (by kernel_rfl) (by kernel_rfl) (fun _ _ _ h => h) (Or.inl ⟨by kernel_rfl, ?_⟩) hS ?_
  rotate_left
  · intro wx hx
    obtain ⟨⟨hx0, hx1⟩, ⟨hx2, hx3, hx4⟩, hx5, hx6, _⟩ := hx
    have hxl := hx5.look hwa hws
    have hxn := hx6.len Tryz.underlying92 3
    rw [hok] at hxl
    rw [hsz] at hxn
    clear hx5 hx6
    go_simp
    try with_reducible rfl
  refine wpAnyH_take (i := 14) (v := ?_) rfl (by kernel_rfl) (by kernel_rfl) (by kernel_rfl) (fun _ _ _ h => h) (Or.inl ⟨by kernel_rfl, ?_⟩) hS ?_
  rotate_left
  · intro wx hx
    obtain ⟨⟨hx0, hx1⟩, ⟨hx2, hx3, hx4⟩, hx5, hx6, _⟩ := hx
    have hxl := hx5.look hwa hws
    have hxn := hx6.len Tryz.underlying92 3
    rw [hok] at hxl
    rw [hsz] at hxn
    clear hx5 hx6
    go_simp
    try with_reducible rfl
  refine wpAnyH_done (by kernel_rfl) ?_ _
  go_simp
  have dn : decide ((nl : Int) < 200) = true := decide_eq_true (by omega)
  have hk1 := HK.out
  clear HK
  subst hk1
  have HB : Hid (Below w.heap.size w _) := hS.2.2.2.2
  have hxn := hS.2.2.2.1.len Tryz.underlying92 3
  rw [hsz] at hxn
  obtain ⟨⟨hx0, hx1⟩, ⟨hx2, hx3, hx4⟩, _⟩ := hS
  go_wp2
  go_ret
  exact ⟨rfl, HB.out⟩
end

section
open Go.RowKit Go.Maps
-- Own text. The columns' prewrite: its ways.
/-- The lock lies in a block of its own. -/
def LkE (w : World) (a s kd pr un : Int) (x : World) : Prop :=
  (x.cell? ⟨w.heap.size, 0, none⟩ = some (.int .i64 a) ∧ x.cell? ⟨w.heap.size, 1, none⟩ = some (.int .i64 s) ∧ x.cell? ⟨w.heap.size, 2, none⟩ = some (.int .i64 kd) ∧ x.cell? ⟨w.heap.size, 3, none⟩ = some (.int .i64 pr) ∧ x.cell? ⟨w.heap.size, 4, none⟩ = some (.int .i64 un)) ∧ Below w.heap.size w x
theorem LkE.later {w x x' : World} {a s kd pr un : Int} (h : LkE w a s kd pr un x) (hb : Below x.heap.size x x') : LkE w a s kd pr un x' := by
  obtain ⟨⟨h0, h1, h2, h3, h4⟩, hB⟩ := h
  have hl := lt_cell h0
  exact ⟨⟨(hb.cell (p := ⟨w.heap.size, 0, none⟩) hl).trans h0, (hb.cell (p := ⟨w.heap.size, 1, none⟩) hl).trans h1, (hb.cell (p := ⟨w.heap.size, 2, none⟩) hl).trans h2, (hb.cell (p := ⟨w.heap.size, 3, none⟩) hl).trans h3, (hb.cell (p := ⟨w.heap.size, 4, none⟩) hl).trans h4⟩, hB.trans (hb.mono hB.size)⟩
theorem LkE.new (w : World) (a s kd pr un : Int) (t : TypeId) : LkE w a s kd pr un (w.alloc (.cells #[.int .i64 a, .int .i64 s, .int .i64 kd, .int .i64 pr, .int .i64 un] t)) :=
  ⟨⟨World.cell?_alloc_mark w _ _ _ 0, World.cell?_alloc_mark w _ _ _ 1, World.cell?_alloc_mark w _ _ _ 2, World.cell?_alloc_mark w _ _ _ 3, World.cell?_alloc_mark w _ _ _ 4⟩, below_alloc _ _⟩
theorem lock_one {l : Nat → Int} {n : Nat} {a : Int} {i j : Nat} (h : i < n ∧ lockIs l a i ∧ ∀ q, q < i → ¬ lockIs l a q) (h' : j < n ∧ lockIs l a j ∧ ∀ q, q < j → ¬ lockIs l a q) : i = j := by
  rcases Nat.lt_trichotomy i j with q | q | q
  · exact absurd h.2.1 (h'.2.2 i q)
  · exact q
  · exact absurd h'.2.1 (h.2.2 j q)
set_option maxRecDepth 100000 in
set_option maxHeartbeats 4000000 in
theorem colPre_late (B b N : Nat) (m : Int → Int → Option Int) (nl : Nat) (l : Nat → Int) (nw : Nat) (k : Nat → Int) (g : Nat) (u1 u2 : Value) (a s kd pr un va : Int) (w : World) (h : Cols w B b N m nl l nw k g u1 u2) (hw : nw ≤ 200) (hk : ∀ i, i < nw → 1 ≤ k (i * 4 + 3)) (hr : lateP k nw a s) :
    Calls Tryz.prog 33 #[.pointer (some ⟨b, 0, none⟩), .agg #[.int .i64 a, .int .i64 s, .int .i64 kd, .int .i64 pr, .int .i64 un], .int .i64 va] w fun e w' => e = .returned (.iface 103 (.agg #[.int .i64 0])) ∧ Below w.heap.size w w' := by
  have H : Hid (Cols w B b N m nl l nw k g _ _) := h
  have HK : Hid (∀ i, i < nw → 1 ≤ k (i * 4 + 3)) := hk
  have HP : Hid (lateP k nw a s) := hr
  have HE : Hid (LkE w a s kd pr un (w.alloc (.cells #[.int .i64 a, .int .i64 s, .int .i64 kd, .int .i64 pr, .int .i64 un] 53))) := LkE.new w a s kd pr un _
  clear h hk hr
  go_enter Tryz.func33, Tryz.ntmps33
  go_wp2_with fail
  refine (isLate_is B b N m nl l nw k g _ _ a s _ (H.out.later HE.out.2) hw HK.out true ⟨fun _ => HP.out, fun _ => rfl⟩).mono ?_
  rintro e w1 ⟨rfl, q1⟩
  have HE1 : Hid (LkE w a s kd pr un w1) := HE.out.later q1
  clear HE q1 HP
  clear H HK
  go_wp2
  go_ret
  exact ⟨rfl, HE1.out.2⟩
set_option maxRecDepth 100000 in
set_option maxHeartbeats 4000000 in
theorem colPre_held (B b N : Nat) (m : Int → Int → Option Int) (nl : Nat) (l : Nat → Int) (nw : Nat) (k : Nat → Int) (g : Nat) (u1 u2 : Value) (a s kd pr un va : Int) (w : World) (h : Cols w B b N m nl l nw k g u1 u2) (hw : nw ≤ 200) (hk : ∀ i, i < nw → 1 ≤ k (i * 4 + 3)) (hl : nl ≤ 200) (hr : ¬ lateP k nw a s) (j : Nat) (hj : j < nl ∧ lockIs l a j ∧ ∀ q, q < j → ¬ lockIs l a q) (v : Value) (hv : v = if l (j * 5 + 1) = s then .nilIface else .iface 103 (.agg #[.int .i64 1])) :
    Calls Tryz.prog 33 #[.pointer (some ⟨b, 0, none⟩), .agg #[.int .i64 a, .int .i64 s, .int .i64 kd, .int .i64 pr, .int .i64 un], .int .i64 va] w fun e w' => e = .returned v ∧ Below w.heap.size w w' := by
  have HJ : Hid (j < nl ∧ lockIs l a j ∧ ∀ q, q < j → ¬ lockIs l a q) := hj
  have HV : Hid (v = if l (j * 5 + 1) = s then .nilIface else .iface 103 (.agg #[.int .i64 1])) := hv
  clear hj hv
  have H : Hid (Cols w B b N m nl l nw k g _ _) := h
  have HK : Hid (∀ i, i < nw → 1 ≤ k (i * 4 + 3)) := hk
  have HP : Hid (¬ lateP k nw a s) := hr
  have HE : Hid (LkE w a s kd pr un (w.alloc (.cells #[.int .i64 a, .int .i64 s, .int .i64 kd, .int .i64 pr, .int .i64 un] 53))) := LkE.new w a s kd pr un _
  clear h hk hr
  go_enter Tryz.func33, Tryz.ntmps33
  go_wp2_with fail
  refine (isLate_is B b N m nl l nw k g _ _ a s _ (H.out.later HE.out.2) hw HK.out false ⟨fun q => (Bool.false_ne_true q).elim, fun q => (HP.out q).elim⟩).mono ?_
  rintro e w1 ⟨rfl, q1⟩
  have HE1 : Hid (LkE w a s kd pr un w1) := HE.out.later q1
  clear HE q1 HP
  obtain ⟨⟨y0, y1, y2, y3, y4⟩, _⟩ := HE1.out
  go_wp2_with fail
  refine (lockOf_any B b N m nl l nw k g _ _ a _ (H.out.later HE1.out.2) hl).mono ?_
  rintro e w2 ⟨v2, rfl, ht, q2⟩
  clear y0 y1 y2 y3 y4
  rcases ht with ⟨i, h1, h2, h3, rfl⟩ | ⟨h1, rfl⟩
  · obtain rfl : i = j := lock_one ⟨h1, h2, h3⟩ HJ.out
    have hv := HV.out
    have HE2 : Hid (LkE w a s kd pr un (w2.alloc (.cells #[.int .i64 (l (i * 5)), .int .i64 (l (i * 5 + 1)), .int .i64 (l (i * 5 + 2)), .int .i64 (l (i * 5 + 3)), .int .i64 (l (i * 5 + 4))] 53))) := HE1.out.later (q2.trans ((below_alloc w2 _).mono q2.size))
    clear h1 h2 h3 HJ HV HE1 H HK q2 hl hw
    generalize l (i * 5) = n0 at *
    generalize l (i * 5 + 1) = n1 at *
    generalize l (i * 5 + 2) = n2 at *
    generalize l (i * 5 + 3) = n3 at *
    generalize l (i * 5 + 4) = n4 at *
    obtain ⟨⟨y0, y1, y2, y3, y4⟩, _⟩ := HE2.out
    by_cases hc : n1 = s
    · subst hc
      rw [if_pos rfl] at hv
      subst hv
      go_wp2
      go_ret
      exact ⟨rfl, HE2.out.2⟩
    · rw [if_neg hc] at hv
      subst hv
      have dc : (n1 == s) = false := beq_eq_false_iff_ne.2 hc
      clear hc
      go_wp2
      go_ret
      exact ⟨rfl, HE2.out.2⟩
  · exact absurd HJ.out.2.1 (h1 j HJ.out.1)
set_option maxRecDepth 100000 in
set_option maxHeartbeats 4000000 in
theorem colPre_full (B b N : Nat) (m : Int → Int → Option Int) (nl : Nat) (l : Nat → Int) (nw : Nat) (k : Nat → Int) (g : Nat) (u1 u2 : Value) (a s kd pr un va : Int) (w : World) (h : Cols w B b N m nl l nw k g u1 u2) (hw : nw ≤ 200) (hk : ∀ i, i < nw → 1 ≤ k (i * 4 + 3)) (hl : nl ≤ 200) (hr : ¬ lateP k nw a s) (hn : ∀ i, i < nl → ¬ lockIs l a i) (HS : ∀ x, Below w.heap.size w x → Cols x B b N m nl l nw k g u1 u2 → Calls Tryz.prog 63 #[.pointer (some ⟨b, 0, none⟩), .agg #[.int .i64 a, .int .i64 s, .int .i64 kd, .int .i64 pr, .int .i64 un]] x fun e w' => e = .returned (.bool false) ∧ Below x.heap.size x w') :
    Calls Tryz.prog 33 #[.pointer (some ⟨b, 0, none⟩), .agg #[.int .i64 a, .int .i64 s, .int .i64 kd, .int .i64 pr, .int .i64 un], .int .i64 va] w fun e w' => e = .returned (.iface 103 (.agg #[.int .i64 5])) ∧ Below w.heap.size w w' := by
  have HN : Hid (∀ i, i < nl → ¬ lockIs l a i) := hn
  have HSS : Hid (∀ x, Below w.heap.size w x → Cols x B b N m nl l nw k g u1 u2 → Calls Tryz.prog 63 #[.pointer (some ⟨b, 0, none⟩), .agg #[.int .i64 a, .int .i64 s, .int .i64 kd, .int .i64 pr, .int .i64 un]] x fun e w' => e = .returned (.bool false) ∧ Below x.heap.size x w') := HS
  clear hn HS
  have H : Hid (Cols w B b N m nl l nw k g _ _) := h
  have HK : Hid (∀ i, i < nw → 1 ≤ k (i * 4 + 3)) := hk
  have HP : Hid (¬ lateP k nw a s) := hr
  have HE : Hid (LkE w a s kd pr un (w.alloc (.cells #[.int .i64 a, .int .i64 s, .int .i64 kd, .int .i64 pr, .int .i64 un] 53))) := LkE.new w a s kd pr un _
  clear h hk hr
  go_enter Tryz.func33, Tryz.ntmps33
  go_wp2_with fail
  refine (isLate_is B b N m nl l nw k g _ _ a s _ (H.out.later HE.out.2) hw HK.out false ⟨fun q => (Bool.false_ne_true q).elim, fun q => (HP.out q).elim⟩).mono ?_
  rintro e w1 ⟨rfl, q1⟩
  have HE1 : Hid (LkE w a s kd pr un w1) := HE.out.later q1
  clear HE q1 HP
  obtain ⟨⟨y0, y1, y2, y3, y4⟩, _⟩ := HE1.out
  go_wp2_with fail
  refine (lockOf_any B b N m nl l nw k g _ _ a _ (H.out.later HE1.out.2) hl).mono ?_
  rintro e w2 ⟨v2, rfl, ht, q2⟩
  clear y0 y1 y2 y3 y4
  rcases ht with ⟨i, h1, h2, h3, rfl⟩ | ⟨h1, rfl⟩
  · exact absurd h2 (HN.out i h1)
  have HE2 : Hid (LkE w a s kd pr un (w2.alloc (.cells #[.int .i64 0, .int .i64 0, .int .i64 0, .int .i64 0, .int .i64 0] 53))) := HE1.out.later (q2.trans ((below_alloc w2 _).mono q2.size))
  clear h1 HE1 HK q2 HN
  obtain ⟨⟨y0, y1, y2, y3, y4⟩, _⟩ := HE2.out
  go_wp2_with fail
  refine (HSS.out _ HE2.out.2 (H.out.later HE2.out.2)).mono ?_
  rintro e w3 ⟨rfl, q3⟩
  have HE3 : Hid (LkE w a s kd pr un w3) := HE2.out.later q3
  clear HE2 q3 H HSS hl hw y0 y1 y2 y3 y4
  go_wp2
  go_ret
  exact ⟨rfl, HE3.out.2⟩
/-- What the search and the insertion see. -/
def PreE (w : World) (B b N : Nat) (m : Int → Int → Option Int) (nl : Nat) (l : Nat → Int) (nw : Nat) (k : Nat → Int) (g : Nat) (u1 u2 : Value) (a s kd pr un : Int) (x : World) : Prop :=
  x.cell? ⟨b, 1, none⟩ = some u1 ∧ LkE w a s kd pr un x ∧ Cols x B b N m nl l nw k g u1 u2
theorem PreE.later {w x x' : World} {B b N : Nat} {m : Int → Int → Option Int} {nl : Nat} {l : Nat → Int} {nw : Nat} {k : Nat → Int} {g : Nat} {u1 u2 : Value} {a s kd pr un : Int} (h : PreE w B b N m nl l nw k g u1 u2 a s kd pr un x) (hb : Below x.heap.size x x') : PreE w B b N m nl l nw k g u1 u2 a s kd pr un x' :=
  ⟨(hb.cell (p := ⟨b, 1, none⟩) (lt_cell h.1)).trans h.1, h.2.1.later hb, h.2.2.later hb⟩
theorem cell_kept {x x' : World} {b : Nat} (h : x'.heap[b]? = x.heap[b]?) (i : Nat) : x'.cell? ⟨b, i, none⟩ = x.cell? ⟨b, i, none⟩ := World.cell?_of_block (w := x) (a := ⟨b, i, none⟩) h
set_option maxRecDepth 100000 in
set_option maxHeartbeats 4000000 in
theorem colPre_done (B b N : Nat) (m : Int → Int → Option Int) (nl : Nat) (l : Nat → Int) (nw : Nat) (k : Nat → Int) (g : Nat) (u1 u2 : Value) (a s kd pr un va : Int) (wa : Wf a) (ws : Wf s) (wv : Wf va) (w : World) (h : Cols w B b N m nl l nw k g u1 u2) (hA : ApartC b g u1 u2) (hN : N ≤ 400) (hw : nw ≤ 200) (hk : ∀ i, i < nw → 1 ≤ k (i * 4 + 3)) (hl : nl ≤ 200) (hr : ¬ lateP k nw a s) (hn : ∀ i, i < nl → ¬ lockIs l a i)
    (hmono : ∀ i j, i ≤ j → j < nl → aheadL l a j → aheadL l a i)
    (HS : ∀ x, Below w.heap.size w x → Cols x B b N m nl l nw k g u1 u2 → Calls Tryz.prog 63 #[.pointer (some ⟨b, 0, none⟩), .agg #[.int .i64 a, .int .i64 s, .int .i64 kd, .int .i64 pr, .int .i64 un]] x fun e w' => e = .returned (.bool true) ∧ Below x.heap.size x w') :
    Calls Tryz.prog 33 #[.pointer (some ⟨b, 0, none⟩), .agg #[.int .i64 a, .int .i64 s, .int .i64 kd, .int .i64 pr, .int .i64 un], .int .i64 va] w fun e w' => e = .returned .nilIface ∧ (∃ q u1' u2', placeAt (aheadL l a) nl q ∧ Cols w' B b (N + 1) (if kd = 1 then putM m a s va else m) (nl + 1) (insF l 5 nl q [a, s, kd, pr, un]) nw k g u1' u2') ∧ Below B w w' := by
  have HN : Hid (∀ i, i < nl → ¬ lockIs l a i) := hn
  have HM : Hid (∀ i j, i ≤ j → j < nl → aheadL l a j → aheadL l a i) := hmono
  have HA : Hid (ApartC b g u1 u2) := hA
  have HSS : Hid (∀ x, Below w.heap.size w x → Cols x B b N m nl l nw k g u1 u2 → Calls Tryz.prog 63 #[.pointer (some ⟨b, 0, none⟩), .agg #[.int .i64 a, .int .i64 s, .int .i64 kd, .int .i64 pr, .int .i64 un]] x fun e w' => e = .returned (.bool true) ∧ Below x.heap.size x w') := HS
  obtain ⟨POST, hPO⟩ : ∃ POST : World → Prop, ∀ w', POST w' ↔ ((∃ q u1' u2', placeAt (aheadL l a) nl q ∧ Cols w' B b (N + 1) (if kd = 1 then putM m a s va else m) (nl + 1) (insF l 5 nl q [a, s, kd, pr, un]) nw k g u1' u2') ∧ Below B w w') := ⟨_, fun _ => Iff.rfl⟩
  refine Calls.mono (R := fun e w' => e = .returned .nilIface ∧ POST w') ?_ (fun e w' h => ⟨h.1, (hPO w').1 h.2⟩)
  have HPO : Hid (∀ w', ((∃ q u1' u2', placeAt (aheadL l a) nl q ∧ Cols w' B b (N + 1) (if kd = 1 then putM m a s va else m) (nl + 1) (insF l 5 nl q [a, s, kd, pr, un]) nw k g u1' u2') ∧ Below B w w') → POST w') := fun w' h => (hPO w').2 h
  clear hn hmono hA HS hPO
  obtain ⟨b1, d1, rfl⟩ := h.2.2.2.2.1.form
  obtain ⟨b2, d2, rfl⟩ := h.2.2.2.2.2.form
  have hbl := h.2.2.1.lt
  have H : Hid (Cols w B b N m nl l nw k g _ _) := h
  have HK : Hid (∀ i, i < nw → 1 ≤ k (i * 4 + 3)) := hk
  have HP : Hid (¬ lateP k nw a s) := hr
  have HE : Hid (LkE w a s kd pr un (w.alloc (.cells #[.int .i64 a, .int .i64 s, .int .i64 kd, .int .i64 pr, .int .i64 un] 53))) := LkE.new w a s kd pr un _
  clear h hk hr
  go_enter Tryz.func33, Tryz.ntmps33
  go_wp2_with fail
  refine (isLate_is B b N m nl l nw k g _ _ a s _ (H.out.later HE.out.2) hw HK.out false ⟨fun q => (Bool.false_ne_true q).elim, fun q => (HP.out q).elim⟩).mono ?_
  rintro e w1 ⟨rfl, q1⟩
  have HE1 : Hid (LkE w a s kd pr un w1) := HE.out.later q1
  clear HE q1 HP
  obtain ⟨⟨y0, y1, y2, y3, y4⟩, _⟩ := HE1.out
  go_wp2_with fail
  refine (lockOf_any B b N m nl l nw k g _ _ a _ (H.out.later HE1.out.2) hl).mono ?_
  rintro e w2 ⟨v2, rfl, ht, q2⟩
  clear y0 y1 y2 y3 y4
  rcases ht with ⟨i, h1, h2, h3, rfl⟩ | ⟨h1, rfl⟩
  · exact absurd h2 (HN.out i h1)
  have HE2 : Hid (LkE w a s kd pr un (w2.alloc (.cells #[.int .i64 0, .int .i64 0, .int .i64 0, .int .i64 0, .int .i64 0] 53))) := HE1.out.later (q2.trans ((below_alloc w2 _).mono q2.size))
  clear h1 HE1 HK q2 HN
  obtain ⟨⟨y0, y1, y2, y3, y4⟩, _⟩ := HE2.out
  go_wp2_with fail
  refine (HSS.out _ HE2.out.2 (H.out.later HE2.out.2)).mono ?_
  rintro e w3 ⟨rfl, q3⟩
  have HE3 : Hid (PreE w B b N m nl l nw k g (.slice b1 nl d1) (.slice b2 nw d2) a s kd pr un w3.drew) := by
    have hE := HE2.out.later q3
    have hC := (H.out.later hE.2).later (below_drew w3)
    exact ⟨hC.2.2.1.1.2.1, hE.later (below_drew w3), hC⟩
  clear HE2 q3 HSS y0 y1 y2 y3 y4
  go_upto_region 10 with fail
  refine wp_region_held_drew (S := PreE w B b N m nl l nw k g (.slice b1 nl d1) (.slice b2 nw d2) a s kd pr un) (by kernel_rfl) HE3.out (fun hS => ?_)
  clear HE3
  refine wpAnyH_take (i := 0) (v := ?_) rfl (by kernel_rfl) (by kernel_rfl) (by kernel_rfl) (fun _ _ _ h => h) (Or.inl ⟨by kernel_rfl, ?_⟩) hS ?_
  rotate_left
  · intro wx hx
    obtain ⟨hx5, ⟨⟨hx0, hx1, hx2, hx3, hx4⟩, _⟩, _⟩ := hx
    go_simp
    try with_reducible rfl
  refine wpAnyH_take (i := 1) (v := ?_) rfl (by kernel_rfl) (by kernel_rfl) (by kernel_rfl) (fun _ _ _ h => h) (Or.inl ⟨by kernel_rfl, ?_⟩) hS ?_
  rotate_left
  · intro wx hx
    obtain ⟨hx5, ⟨⟨hx0, hx1, hx2, hx3, hx4⟩, _⟩, _⟩ := hx
    go_simp
    try with_reducible rfl
  refine wpAnyH_take (i := 2) (v := ?_) rfl (by kernel_rfl) (by kernel_rfl) (by kernel_rfl) (fun _ _ _ h => h) (Or.inl ⟨by kernel_rfl, ?_⟩) hS ?_
  rotate_left
  · intro wx hx
    obtain ⟨hx5, ⟨⟨hx0, hx1, hx2, hx3, hx4⟩, _⟩, _⟩ := hx
    go_simp
    try with_reducible rfl
  refine wpAnyH_take (i := 3) (v := ?_) rfl (by kernel_rfl) (by kernel_rfl) (by kernel_rfl) (fun _ _ _ h => h) (Or.inl ⟨by kernel_rfl, ?_⟩) hS ?_
  rotate_left
  · intro wx hx
    obtain ⟨hx5, ⟨⟨hx0, hx1, hx2, hx3, hx4⟩, _⟩, _⟩ := hx
    go_simp
    try with_reducible rfl
  refine wpAnyH_take (i := 4) (v := ?_) rfl (by kernel_rfl) (by kernel_rfl) (by kernel_rfl) (fun _ _ _ h => h) (Or.inl ⟨by kernel_rfl, ?_⟩) hS ?_
  rotate_left
  · intro wx hx
    obtain ⟨hx5, ⟨⟨hx0, hx1, hx2, hx3, hx4⟩, _⟩, _⟩ := hx
    go_simp
    try with_reducible rfl
  refine wpAnyH_ready (rs := [5]) (by kernel_rfl) (by simp) ?_
  refine AllReadyH.cons rfl (fun K hK => ?_) AllReadyH.nil
  go_simp
  go_wp2_with fail
  refine (searchL_any nl l b1 d1 B a s kd pr un _ hS.2.2.2.2.2.2.1.row.1 (by omega) HM.out).mono ?_
  rintro e w4 ⟨at_, r, rfl, hat, hr, q1⟩
  have S1 := hS.later q1
  go_wp2_with fail
  refine hK.out _ _ S1 (fun hS => ?_)
  have HP : Hid (placeAt (aheadL l a) nl at_) := hat
  clear hK K q1 S1 hat hr HM
  refine wpAnyH_take (i := 6) (v := ?_) rfl (by kernel_rfl) (by kernel_rfl) (by kernel_rfl) (fun _ _ _ h => h) (Or.inl ⟨by kernel_rfl, ?_⟩) hS ?_
  rotate_left
  · intro wx hx
    obtain ⟨hx5, ⟨⟨hx0, hx1, hx2, hx3, hx4⟩, _⟩, _⟩ := hx
    go_simp
    try with_reducible rfl
  refine wpAnyH_take (i := 7) (v := ?_) rfl (by kernel_rfl) (by kernel_rfl) (by kernel_rfl) (fun _ _ _ h => h) (Or.inl ⟨by kernel_rfl, ?_⟩) hS ?_
  rotate_left
  · intro wx hx
    obtain ⟨hx5, ⟨⟨hx0, hx1, hx2, hx3, hx4⟩, _⟩, _⟩ := hx
    go_simp
    try with_reducible rfl
  refine wpAnyH_take (i := 8) (v := ?_) rfl (by kernel_rfl) (by kernel_rfl) (by kernel_rfl) (fun _ _ _ h => h) (Or.inl ⟨by kernel_rfl, ?_⟩) hS ?_
  rotate_left
  · intro wx hx
    obtain ⟨hx5, ⟨⟨hx0, hx1, hx2, hx3, hx4⟩, _⟩, _⟩ := hx
    go_simp
    try with_reducible rfl
  refine wpAnyH_take (i := 9) (v := ?_) rfl (by kernel_rfl) (by kernel_rfl) (by kernel_rfl) (fun _ _ _ h => h) (Or.inl ⟨by kernel_rfl, ?_⟩) hS ?_
  rotate_left
  · intro wx hx
    obtain ⟨hx5, ⟨⟨hx0, hx1, hx2, hx3, hx4⟩, _⟩, _⟩ := hx
    go_simp
    try with_reducible rfl
  refine wpAnyH_take (i := 10) (v := ?_) rfl (by kernel_rfl) (by kernel_rfl) (by kernel_rfl) (fun _ _ _ h => h) (Or.inl ⟨by kernel_rfl, ?_⟩) hS ?_
  rotate_left
  · intro wx hx
    obtain ⟨hx5, ⟨⟨hx0, hx1, hx2, hx3, hx4⟩, _⟩, _⟩ := hx
    go_simp
    try with_reducible rfl
  refine wpAnyH_done (by kernel_rfl) ?_ _
  go_simp
  obtain ⟨p1, HL0, HC0⟩ := hS
  have HC : Hid (Cols w4 B b N m nl l nw k g (.slice b1 nl d1) (.slice b2 nw d2)) := HC0
  have HL4 : Hid (LkE w a s kd pr un w4) := HL0
  obtain ⟨⟨y0, y1, y2, y3, y4⟩, _⟩ := HL0
  clear HC0
  have hOI : Hid (∀ q, (Value.slice b1 nl d1).ownBlock = some q → B ≤ q ∧ q < w.heap.size) := own_in H.out.2.2.2.2.1
  have hgl : g < w.heap.size := H.out.2.2.2.1.lt
  have hBb : Hid (B ≤ b ∧ B ≤ g) := ⟨H.out.1, H.out.2.1⟩
  have hzl : Hid (w.heap.size < w4.heap.size) := lt_cell y0
  have HY : Hid (Below w4.heap.size w4 (w4.alloc (.cells #[.int .i64 a, .int .i64 s, .int .i64 kd, .int .i64 pr, .int .i64 un] 53)).drew) := (below_alloc w4 _).trans ((below_drew _).mono (by simp))
  have HI : Hid (Calls Tryz.prog 66 #[.slice b1 nl d1, .int .i64 at_, .slice (some ⟨w4.heap.size, 0, none⟩) 1 1] (w4.alloc (.cells #[.int .i64 a, .int .i64 s, .int .i64 kd, .int .i64 pr, .int .i64 un] 53)).drew (InsL (w4.alloc (.cells #[.int .i64 a, .int .i64 s, .int .i64 kd, .int .i64 pr, .int .i64 un] 53)).drew B nl at_ l [a, s, kd, pr, un] (.slice b1 nl d1))) :=
    insL_any _ B nl at_ w4.heap.size 1 l [a, s, kd, pr, un] _ rfl (HC.out.2.2.2.2.1.later HY.out) (Nat.le_trans hBb.out.1 (Nat.le_trans (Nat.le_of_lt hbl) (Nat.le_trans HL4.out.2.size HY.out.size))) (by omega) HP.out.1 (fun e => by have := (hOI.out _ e).2; have := hzl.out; omega) (Blkk.made w4 _ _ _ rfl).drew (fun p hp => by
      rw [drew_cell, World.cell?_alloc_at (w := w4) _ _ _ p rfl]
      obtain rfl | rfl | rfl | rfl | rfl : p = 0 ∨ p = 1 ∨ p = 2 ∨ p = 3 ∨ p = 4 := by omega
      all_goals rfl)
  have SY : Hid (((w4.alloc (.cells #[.int .i64 a, .int .i64 s, .int .i64 kd, .int .i64 pr, .int .i64 un] 53)).drew).cell? ⟨w.heap.size, 0, none⟩ = some (.int .i64 a) ∧ ((w4.alloc (.cells #[.int .i64 a, .int .i64 s, .int .i64 kd, .int .i64 pr, .int .i64 un] 53)).drew).cell? ⟨w.heap.size, 1, none⟩ = some (.int .i64 s) ∧ ((w4.alloc (.cells #[.int .i64 a, .int .i64 s, .int .i64 kd, .int .i64 pr, .int .i64 un] 53)).drew).cell? ⟨w.heap.size, 2, none⟩ = some (.int .i64 kd) ∧ ((w4.alloc (.cells #[.int .i64 a, .int .i64 s, .int .i64 kd, .int .i64 pr, .int .i64 un] 53)).drew).cell? ⟨w.heap.size, 3, none⟩ = some (.int .i64 pr) ∧ ((w4.alloc (.cells #[.int .i64 a, .int .i64 s, .int .i64 kd, .int .i64 pr, .int .i64 un] 53)).drew).cell? ⟨w.heap.size, 4, none⟩ = some (.int .i64 un)) := (HL4.out.later HY.out).1
  go_upto_region 11 with fail
  refine wp_region_held_drew (S := fun X => (X).cell? ⟨w.heap.size, 0, none⟩ = some (.int .i64 a) ∧ (X).cell? ⟨w.heap.size, 1, none⟩ = some (.int .i64 s) ∧ (X).cell? ⟨w.heap.size, 2, none⟩ = some (.int .i64 kd) ∧ (X).cell? ⟨w.heap.size, 3, none⟩ = some (.int .i64 pr) ∧ (X).cell? ⟨w.heap.size, 4, none⟩ = some (.int .i64 un)) (by kernel_rfl) ⟨y0, y1, y2, y3, y4⟩ (fun hS => ?_)
  refine wpAnyH_take (i := 0) (v := ?_) rfl (by kernel_rfl) (by kernel_rfl) (by kernel_rfl) (fun _ _ _ h => h) (Or.inl ⟨by kernel_rfl, ?_⟩) hS ?_
  rotate_left
  · intro wx hx
    obtain ⟨hx0, hx1, hx2, hx3, hx4⟩ := hx
    go_simp
    try with_reducible rfl
  refine wpAnyH_take (i := 1) (v := ?_) rfl (by kernel_rfl) (by kernel_rfl) (by kernel_rfl) (fun _ _ _ h => h) (Or.inl ⟨by kernel_rfl, ?_⟩) hS ?_
  rotate_left
  · intro wx hx
    obtain ⟨hx0, hx1, hx2, hx3, hx4⟩ := hx
    go_simp
    try with_reducible rfl
  refine wpAnyH_take (i := 2) (v := ?_) rfl (by kernel_rfl) (by kernel_rfl) (by kernel_rfl) (fun _ _ _ h => h) (Or.inl ⟨by kernel_rfl, ?_⟩) hS ?_
  rotate_left
  · intro wx hx
    obtain ⟨hx0, hx1, hx2, hx3, hx4⟩ := hx
    go_simp
    try with_reducible rfl
  refine wpAnyH_take (i := 3) (v := ?_) rfl (by kernel_rfl) (by kernel_rfl) (by kernel_rfl) (fun _ _ _ h => h) (Or.inl ⟨by kernel_rfl, ?_⟩) hS ?_
  rotate_left
  · intro wx hx
    obtain ⟨hx0, hx1, hx2, hx3, hx4⟩ := hx
    go_simp
    try with_reducible rfl
  refine wpAnyH_take (i := 5) (v := ?_) rfl (by kernel_rfl) (by kernel_rfl) (by kernel_rfl) (fun _ _ _ h => h) (Or.inl ⟨by kernel_rfl, ?_⟩) hS ?_
  rotate_left
  · intro wx hx
    obtain ⟨hx0, hx1, hx2, hx3, hx4⟩ := hx
    go_simp
    try with_reducible rfl
  refine wpAnyH_take (i := 6) (v := ?_) rfl (by kernel_rfl) (by kernel_rfl) (by kernel_rfl) (fun _ _ _ h => h) (Or.inl ⟨by kernel_rfl, ?_⟩) hS ?_
  rotate_left
  · intro wx hx
    obtain ⟨hx0, hx1, hx2, hx3, hx4⟩ := hx
    go_simp
    try with_reducible rfl
  refine wpAnyH_ready (rs := [4, 7]) (by kernel_rfl) (by simp) ?_
  refine AllReadyH.cons rfl (fun K hK => ?_) (AllReadyH.cons rfl (fun K hK => ?_) AllReadyH.nil)
  · go_simp
    refine hK.out _ _ hS (fun hS => ?_)
    clear hK K
    refine wpAnyH_ready (rs := [7]) (by kernel_rfl) (by simp) ?_
    refine AllReadyH.cons rfl (fun K hK => ?_) AllReadyH.nil
    go_simp
    refine hK.out _ _ SY.out (fun hS => ?_)
    clear hK K
    refine wpAnyH_ready (rs := [8]) (by kernel_rfl) (by simp) ?_
    refine AllReadyH.cons rfl (fun K hK => ?_) AllReadyH.nil
    go_simp
    go_wp2_with fail
    refine HI.out.mono ?_
    rintro e w5 ⟨e1, f1, rfl, O4, G4, A4⟩
    have hk4 : ∀ i, i < w4.heap.size → (∀ q, (Value.slice b1 nl d1).ownBlock = some q → i ≠ q) → w5.heap[i]? = w4.heap[i]? := fun i h1 h2 => (G4.block i (Nat.lt_of_lt_of_le h1 HY.out.size) (fun e => h2 i e.symm rfl)).trans (HY.out.block i h1)
    have HB4' : Hid (w5.heap[w.heap.size]? = w4.heap[w.heap.size]?) := hk4 _ hzl.out (fun q hq e => by have := (hOI.out q hq).2; omega)
    have S4 : (w5).cell? ⟨w.heap.size, 0, none⟩ = some (.int .i64 a) ∧ (w5).cell? ⟨w.heap.size, 1, none⟩ = some (.int .i64 s) ∧ (w5).cell? ⟨w.heap.size, 2, none⟩ = some (.int .i64 kd) ∧ (w5).cell? ⟨w.heap.size, 3, none⟩ = some (.int .i64 pr) ∧ (w5).cell? ⟨w.heap.size, 4, none⟩ = some (.int .i64 un) := by
      obtain ⟨r0, r1, r2, r3, r4⟩ := HL4.out.1
      exact ⟨(cell_kept HB4'.out 0).trans r0, (cell_kept HB4'.out 1).trans r1, (cell_kept HB4'.out 2).trans r2, (cell_kept HB4'.out 3).trans r3, (cell_kept HB4'.out 4).trans r4⟩
    have HB' : Hid (Blk3 w5 b (.map (some g)) (.slice b1 nl d1) (.slice b2 nw d2)) := HC.out.2.2.1.kept (hk4 _ HC.out.2.2.1.lt (fun q hq e => (HA.out.2.1 q hq).1 e.symm))
    have HP4 : Hid (PM w5 g N m) := HC.out.2.2.2.1.kept (hk4 _ HC.out.2.2.2.1.lt (fun q hq e => (HA.out.2.1 q hq).2 e.symm))
    have HW4 : Hid (Own w5 B 84 4 nw k (.slice b2 nw d2)) := HC.out.2.2.2.2.2.kept (fun j hj => hk4 j (own_in HC.out.2.2.2.2.2 j hj).2 (fun q hq e => HA.out.2.2.2 q hq (by rw [hj, e])))
    have HLL : Hid (Own w5 B 53 5 (nl + 1) (insF l 5 nl at_ [a, s, kd, pr, un]) (.slice e1 (nl + 1) f1)) := O4
    have HA4 : Hid (∀ q, (Value.slice e1 (nl + 1) f1).ownBlock = some q → (Value.slice b1 nl d1).ownBlock = some q ∨ w.heap.size < q) := fun q hq => (A4 q hq).imp id (fun h => by have := HY.out.size; have := hzl.out; omega)
    have HBB : Hid (Below B w w5) := ⟨G4.os.trans (HY.out.os.trans HL4.out.2.os), G4.tape.trans (HY.out.tape.trans HL4.out.2.tape), G4.output.trans (HY.out.output.trans HL4.out.2.output), Nat.le_trans HL4.out.2.size (Nat.le_trans HY.out.size G4.size), fun i hi => (hk4 i (by have := hBb.out; have := hzl.out; omega) (fun q hq e => by have := (hOI.out q hq).1; omega)).trans (HL4.out.2.block i (by have := hBb.out; omega))⟩
    clear O4 G4 A4 hk4 HC HI HY SY hS p1 y0 y1 y2 y3 y4 HB4' HL4
    go_wp2_with fail
    refine hK.out _ _ S4 (fun hS => ?_)
    clear hK K S4
    refine wpAnyH_take (i := 9) (v := ?_) rfl (by kernel_rfl) (by kernel_rfl) (by kernel_rfl) (fun _ _ _ h => h) (Or.inl ⟨by kernel_rfl, ?_⟩) hS ?_
    rotate_left
    · intro wx hx
      obtain ⟨hx0, hx1, hx2, hx3, hx4⟩ := hx
      go_simp
      try with_reducible rfl
    refine wpAnyH_take (i := 10) (v := ?_) rfl (by kernel_rfl) (by kernel_rfl) (by kernel_rfl) (fun _ _ _ h => h) (Or.inl ⟨by kernel_rfl, ?_⟩) hS ?_
    rotate_left
    · intro wx hx
      obtain ⟨hx0, hx1, hx2, hx3, hx4⟩ := hx
      go_simp
      try with_reducible rfl
    obtain ⟨⟨t0, t1, t2⟩, ft0, ft1, ft2⟩ := HB'.out
    refine wpAnyH_ready (rs := [11]) (by kernel_rfl) (by simp) ?_
    refine AllReadyH.cons rfl (fun K hK => ?_) AllReadyH.nil
    go_simp
    have hk5 : ∀ i, i ≠ b → (w5.setCell ⟨b, 1, none⟩ (.slice e1 (nl + 1) f1)).heap[i]? = w5.heap[i]? := fun i hi => Below.heap_setCell w5 ⟨b, 1, none⟩ _ i hi
    have S5 : ((w5.setCell ⟨b, 1, none⟩ (.slice e1 (nl + 1) f1))).cell? ⟨w.heap.size, 0, none⟩ = some (.int .i64 a) ∧ ((w5.setCell ⟨b, 1, none⟩ (.slice e1 (nl + 1) f1))).cell? ⟨w.heap.size, 1, none⟩ = some (.int .i64 s) ∧ ((w5.setCell ⟨b, 1, none⟩ (.slice e1 (nl + 1) f1))).cell? ⟨w.heap.size, 2, none⟩ = some (.int .i64 kd) ∧ ((w5.setCell ⟨b, 1, none⟩ (.slice e1 (nl + 1) f1))).cell? ⟨w.heap.size, 3, none⟩ = some (.int .i64 pr) ∧ ((w5.setCell ⟨b, 1, none⟩ (.slice e1 (nl + 1) f1))).cell? ⟨w.heap.size, 4, none⟩ = some (.int .i64 un) := by
      have hq := hk5 w.heap.size (by omega)
      obtain ⟨r0, r1, r2, r3, r4⟩ := hS
      exact ⟨(cell_kept hq 0).trans r0, (cell_kept hq 1).trans r1, (cell_kept hq 2).trans r2, (cell_kept hq 3).trans r3, (cell_kept hq 4).trans r4⟩
    have hub : Hid (∀ q, (Value.slice e1 (nl + 1) f1).ownBlock = some q → q ≠ b ∧ q ≠ g) := fun q hq => (HA4.out q hq).elim (fun h => HA.out.2.1 q h) (fun h => ⟨by omega, by omega⟩)
    have HC5 : Hid (Cols (w5.setCell ⟨b, 1, none⟩ (.slice e1 (nl + 1) f1)) B b N m (nl + 1) (insF l 5 nl at_ [a, s, kd, pr, un]) nw k g (.slice e1 (nl + 1) f1) (.slice b2 nw d2)) := ⟨hBb.out.1, hBb.out.2, HB'.out.set1 _, HP4.out.kept (hk5 _ HA.out.1), HLL.out.kept (fun j hj => hk5 j (hub.out j hj).1), HW4.out.kept (fun j hj => hk5 j (HA.out.2.2.1 j hj).1)⟩
    have HBB5 : Hid (Below B w (w5.setCell ⟨b, 1, none⟩ (.slice e1 (nl + 1) f1))) := HBB.out.setCell hBb.out.1 _
    refine hK.out _ _ S5 (fun hS => ?_)
    clear hK K hk5 t0 t1 t2 ft0 ft1 ft2 HB' HP4 HLL HW4 HBB S5
    generalize w5.setCell ⟨b, 1, none⟩ (.slice e1 (nl + 1) f1) = w6 at HC5 HBB5 hS ⊢
    refine wpAnyH_done (by kernel_rfl) ?_ _
    go_simp
    by_cases hkd : kd = 1
    · subst hkd
      have HPP : Hid (∀ w', ((∃ q u1' u2', placeAt (aheadL l a) nl q ∧ Cols w' B b (N + 1) (putM m a s va) (nl + 1) (insF l 5 nl q [a, s, 1, pr, un]) nw k g u1' u2') ∧ Below B w w') → POST w') := fun w' h => HPO.out w' (by rw [if_pos rfl]; exact h)
      clear HPO
      obtain ⟨z0, z1, z2, z3, z4⟩ := hS
      obtain ⟨⟨t0, t1, t2⟩, _⟩ := HC5.out.2.2.1
      have HPM : Hid (PM w6 g N m) := HC5.out.2.2.2.1
      clear HA4
      obtain ⟨w7, hrun, hP7, hg7⟩ := PM.put (w := w6.drew) (HPM.out.kept rfl) (Nat.lt_of_le_of_lt hN (by decide)) wa ws wv
      have hk7 : ∀ i, i < w6.heap.size → i ≠ g → w7.heap[i]? = w6.heap[i]? := fun i hi hne => hg7.block i hi (fun e => hne (Option.some.inj e))
      have S7 : w7.cell? ⟨b, 0, none⟩ = some (.map (some g)) ∧ w7.cell? ⟨w.heap.size, 0, none⟩ = some (.int .i64 a) ∧ w7.cell? ⟨w.heap.size, 1, none⟩ = some (.int .i64 s) := by
        have e1 := hk7 b HC5.out.2.2.1.lt (fun e => HA.out.1 e.symm)
        have e2 := hk7 w.heap.size (lt_cell z0) (by omega)
        exact ⟨(cell_kept e1 0).trans t0, (cell_kept e2 0).trans z0, (cell_kept e2 1).trans z1⟩
      have hfin : Hid (POST w7) := HPP.out w7 ⟨⟨at_, _, _, HP.out, ⟨hBb.out.1, hBb.out.2, HC5.out.2.2.1.kept (hk7 b HC5.out.2.2.1.lt (fun e => HA.out.1 e.symm)), hP7, HC5.out.2.2.2.2.1.kept (fun j hj => hk7 j (own_in HC5.out.2.2.2.2.1 j hj).2 (hub.out j hj).2), HC5.out.2.2.2.2.2.kept (fun j hj => hk7 j (own_in HC5.out.2.2.2.2.2 j hj).2 (HA.out.2.2.1 j hj).2)⟩⟩, HBB5.out.trans ⟨hg7.os, hg7.tape, hg7.output, hg7.size, fun i hi => hk7 i (by have := hBb.out; have := HBB5.out.size; omega) (by have := hBb.out; omega)⟩⟩
      clear HPP HC5 HBB5 hk7 hP7 hg7 hub HA HPM
      go_upto_region 13 with fail
      refine wp_region_held_drew (S := fun X => X.cell? ⟨b, 0, none⟩ = some (.map (some g)) ∧ X.cell? ⟨w.heap.size, 0, none⟩ = some (.int .i64 a) ∧ X.cell? ⟨w.heap.size, 1, none⟩ = some (.int .i64 s)) (by kernel_rfl) ⟨t0, z0, z1⟩ (fun hS => ?_)
      refine wpAnyH_take (i := 0) (v := ?_) rfl (by kernel_rfl) (by kernel_rfl) (by kernel_rfl) (fun _ _ _ h => h) (Or.inl ⟨by kernel_rfl, ?_⟩) hS ?_
      rotate_left
      · intro wx hx
        obtain ⟨hx0, hx1, hx2⟩ := hx
        go_simp
        try with_reducible rfl
      refine wpAnyH_take (i := 1) (v := ?_) rfl (by kernel_rfl) (by kernel_rfl) (by kernel_rfl) (fun _ _ _ h => h) (Or.inl ⟨by kernel_rfl, ?_⟩) hS ?_
      rotate_left
      · intro wx hx
        obtain ⟨hx0, hx1, hx2⟩ := hx
        go_simp
        try with_reducible rfl
      refine wpAnyH_take (i := 2) (v := ?_) rfl (by kernel_rfl) (by kernel_rfl) (by kernel_rfl) (fun _ _ _ h => h) (Or.inl ⟨by kernel_rfl, ?_⟩) hS ?_
      rotate_left
      · intro wx hx
        obtain ⟨hx0, hx1, hx2⟩ := hx
        go_simp
        try with_reducible rfl
      refine wpAnyH_take (i := 3) (v := ?_) rfl (by kernel_rfl) (by kernel_rfl) (by kernel_rfl) (fun _ _ _ h => h) (Or.inl ⟨by kernel_rfl, ?_⟩) hS ?_
      rotate_left
      · intro wx hx
        obtain ⟨hx0, hx1, hx2⟩ := hx
        go_simp
        try with_reducible rfl
      refine wpAnyH_take (i := 4) (v := ?_) rfl (by kernel_rfl) (by kernel_rfl) (by kernel_rfl) (fun _ _ _ h => h) (Or.inl ⟨by kernel_rfl, ?_⟩) hS ?_
      rotate_left
      · intro wx hx
        obtain ⟨hx0, hx1, hx2⟩ := hx
        go_simp
        try with_reducible rfl
      refine wpAnyH_take (i := 5) (v := ?_) rfl (by kernel_rfl) (by kernel_rfl) (by kernel_rfl) (fun _ _ _ h => h) (Or.inl ⟨by kernel_rfl, ?_⟩) hS ?_
      rotate_left
      · intro wx hx
        obtain ⟨hx0, hx1, hx2⟩ := hx
        go_simp
        try with_reducible rfl
      refine wpAnyH_take (i := 6) (v := ?_) rfl (by kernel_rfl) (by kernel_rfl) (by kernel_rfl) (fun _ _ _ h => h) (Or.inl ⟨by kernel_rfl, ?_⟩) hS ?_
      rotate_left
      · intro wx hx
        obtain ⟨hx0, hx1, hx2⟩ := hx
        go_simp
        try with_reducible rfl
      refine wpAnyH_take (i := 7) (v := ?_) rfl (by kernel_rfl) (by kernel_rfl) (by kernel_rfl) (fun _ _ _ h => h) (Or.inl ⟨by kernel_rfl, ?_⟩) hS ?_
      rotate_left
      · intro wx hx
        obtain ⟨hx0, hx1, hx2⟩ := hx
        go_simp
        try with_reducible rfl
      refine wpAnyH_take (i := 8) (v := ?_) rfl (by kernel_rfl) (by kernel_rfl) (by kernel_rfl) (fun _ _ _ h => h) (Or.inl ⟨by kernel_rfl, ?_⟩) hS ?_
      rotate_left
      · intro wx hx
        obtain ⟨hx0, hx1, hx2⟩ := hx
        go_simp
        try with_reducible rfl
      refine wpAnyH_take (i := 9) (v := ?_) rfl (by kernel_rfl) (by kernel_rfl) (by kernel_rfl) (fun _ _ _ h => h) (Or.inl ⟨by kernel_rfl, ?_⟩) hS ?_
      rotate_left
      · intro wx hx
        obtain ⟨hx0, hx1, hx2⟩ := hx
        go_simp
        try with_reducible rfl
      refine wpAnyH_ready (rs := [10]) (by kernel_rfl) (by simp) ?_
      refine AllReadyH.cons rfl (fun K hK => ?_) AllReadyH.nil
      go_simp
      refine hK.out _ _ S7 (fun hS => ?_)
      clear hK K
      refine wpAnyH_done (by kernel_rfl) ?_ _
      go_simp
      go_wp2
      go_ret
      exact ⟨rfl, hfin.out⟩
    · have HPP : Hid (POST w6) := HPO.out w6 (by rw [if_neg hkd]; exact ⟨⟨at_, _, _, HP.out, ⟨HC5.out.1, HC5.out.2.1, HC5.out.2.2.1, HC5.out.2.2.2.1.mono (Nat.le_succ _), HC5.out.2.2.2.2⟩⟩, HBB5.out⟩)
      have dk : (kd == 1) = false := beq_eq_false_iff_ne.2 hkd
      clear HPO hkd HC5 HBB5 HA4 hub HA
      obtain ⟨z0, z1, z2, z3, z4⟩ := hS
      go_wp2
      go_ret
      exact ⟨rfl, HPP.out⟩
  · go_simp
    refine hK.out _ _ SY.out (fun hS => ?_)
    clear hK K
    refine wpAnyH_ready (rs := [4]) (by kernel_rfl) (by simp) ?_
    refine AllReadyH.cons rfl (fun K hK => ?_) AllReadyH.nil
    have p1' := (HY.out.cell (p := ⟨b, 1, none⟩) (lt_cell p1)).trans p1
    go_simp
    refine hK.out _ _ hS (fun hS => ?_)
    clear hK K p1'
    refine wpAnyH_ready (rs := [8]) (by kernel_rfl) (by simp) ?_
    refine AllReadyH.cons rfl (fun K hK => ?_) AllReadyH.nil
    go_simp
    go_wp2_with fail
    refine HI.out.mono ?_
    rintro e w5 ⟨e1, f1, rfl, O4, G4, A4⟩
    have hk4 : ∀ i, i < w4.heap.size → (∀ q, (Value.slice b1 nl d1).ownBlock = some q → i ≠ q) → w5.heap[i]? = w4.heap[i]? := fun i h1 h2 => (G4.block i (Nat.lt_of_lt_of_le h1 HY.out.size) (fun e => h2 i e.symm rfl)).trans (HY.out.block i h1)
    have HB4' : Hid (w5.heap[w.heap.size]? = w4.heap[w.heap.size]?) := hk4 _ hzl.out (fun q hq e => by have := (hOI.out q hq).2; omega)
    have S4 : (w5).cell? ⟨w.heap.size, 0, none⟩ = some (.int .i64 a) ∧ (w5).cell? ⟨w.heap.size, 1, none⟩ = some (.int .i64 s) ∧ (w5).cell? ⟨w.heap.size, 2, none⟩ = some (.int .i64 kd) ∧ (w5).cell? ⟨w.heap.size, 3, none⟩ = some (.int .i64 pr) ∧ (w5).cell? ⟨w.heap.size, 4, none⟩ = some (.int .i64 un) := by
      obtain ⟨r0, r1, r2, r3, r4⟩ := HL4.out.1
      exact ⟨(cell_kept HB4'.out 0).trans r0, (cell_kept HB4'.out 1).trans r1, (cell_kept HB4'.out 2).trans r2, (cell_kept HB4'.out 3).trans r3, (cell_kept HB4'.out 4).trans r4⟩
    have HB' : Hid (Blk3 w5 b (.map (some g)) (.slice b1 nl d1) (.slice b2 nw d2)) := HC.out.2.2.1.kept (hk4 _ HC.out.2.2.1.lt (fun q hq e => (HA.out.2.1 q hq).1 e.symm))
    have HP4 : Hid (PM w5 g N m) := HC.out.2.2.2.1.kept (hk4 _ HC.out.2.2.2.1.lt (fun q hq e => (HA.out.2.1 q hq).2 e.symm))
    have HW4 : Hid (Own w5 B 84 4 nw k (.slice b2 nw d2)) := HC.out.2.2.2.2.2.kept (fun j hj => hk4 j (own_in HC.out.2.2.2.2.2 j hj).2 (fun q hq e => HA.out.2.2.2 q hq (by rw [hj, e])))
    have HLL : Hid (Own w5 B 53 5 (nl + 1) (insF l 5 nl at_ [a, s, kd, pr, un]) (.slice e1 (nl + 1) f1)) := O4
    have HA4 : Hid (∀ q, (Value.slice e1 (nl + 1) f1).ownBlock = some q → (Value.slice b1 nl d1).ownBlock = some q ∨ w.heap.size < q) := fun q hq => (A4 q hq).imp id (fun h => by have := HY.out.size; have := hzl.out; omega)
    have HBB : Hid (Below B w w5) := ⟨G4.os.trans (HY.out.os.trans HL4.out.2.os), G4.tape.trans (HY.out.tape.trans HL4.out.2.tape), G4.output.trans (HY.out.output.trans HL4.out.2.output), Nat.le_trans HL4.out.2.size (Nat.le_trans HY.out.size G4.size), fun i hi => (hk4 i (by have := hBb.out; have := hzl.out; omega) (fun q hq e => by have := (hOI.out q hq).1; omega)).trans (HL4.out.2.block i (by have := hBb.out; omega))⟩
    clear O4 G4 A4 hk4 HC HI HY SY hS p1 y0 y1 y2 y3 y4 HB4' HL4
    go_wp2_with fail
    refine hK.out _ _ S4 (fun hS => ?_)
    clear hK K S4
    refine wpAnyH_take (i := 9) (v := ?_) rfl (by kernel_rfl) (by kernel_rfl) (by kernel_rfl) (fun _ _ _ h => h) (Or.inl ⟨by kernel_rfl, ?_⟩) hS ?_
    rotate_left
    · intro wx hx
      obtain ⟨hx0, hx1, hx2, hx3, hx4⟩ := hx
      go_simp
      try with_reducible rfl
    refine wpAnyH_take (i := 10) (v := ?_) rfl (by kernel_rfl) (by kernel_rfl) (by kernel_rfl) (fun _ _ _ h => h) (Or.inl ⟨by kernel_rfl, ?_⟩) hS ?_
    rotate_left
    · intro wx hx
      obtain ⟨hx0, hx1, hx2, hx3, hx4⟩ := hx
      go_simp
      try with_reducible rfl
    obtain ⟨⟨t0, t1, t2⟩, ft0, ft1, ft2⟩ := HB'.out
    refine wpAnyH_ready (rs := [11]) (by kernel_rfl) (by simp) ?_
    refine AllReadyH.cons rfl (fun K hK => ?_) AllReadyH.nil
    go_simp
    have hk5 : ∀ i, i ≠ b → (w5.setCell ⟨b, 1, none⟩ (.slice e1 (nl + 1) f1)).heap[i]? = w5.heap[i]? := fun i hi => Below.heap_setCell w5 ⟨b, 1, none⟩ _ i hi
    have S5 : ((w5.setCell ⟨b, 1, none⟩ (.slice e1 (nl + 1) f1))).cell? ⟨w.heap.size, 0, none⟩ = some (.int .i64 a) ∧ ((w5.setCell ⟨b, 1, none⟩ (.slice e1 (nl + 1) f1))).cell? ⟨w.heap.size, 1, none⟩ = some (.int .i64 s) ∧ ((w5.setCell ⟨b, 1, none⟩ (.slice e1 (nl + 1) f1))).cell? ⟨w.heap.size, 2, none⟩ = some (.int .i64 kd) ∧ ((w5.setCell ⟨b, 1, none⟩ (.slice e1 (nl + 1) f1))).cell? ⟨w.heap.size, 3, none⟩ = some (.int .i64 pr) ∧ ((w5.setCell ⟨b, 1, none⟩ (.slice e1 (nl + 1) f1))).cell? ⟨w.heap.size, 4, none⟩ = some (.int .i64 un) := by
      have hq := hk5 w.heap.size (by omega)
      obtain ⟨r0, r1, r2, r3, r4⟩ := hS
      exact ⟨(cell_kept hq 0).trans r0, (cell_kept hq 1).trans r1, (cell_kept hq 2).trans r2, (cell_kept hq 3).trans r3, (cell_kept hq 4).trans r4⟩
    have hub : Hid (∀ q, (Value.slice e1 (nl + 1) f1).ownBlock = some q → q ≠ b ∧ q ≠ g) := fun q hq => (HA4.out q hq).elim (fun h => HA.out.2.1 q h) (fun h => ⟨by omega, by omega⟩)
    have HC5 : Hid (Cols (w5.setCell ⟨b, 1, none⟩ (.slice e1 (nl + 1) f1)) B b N m (nl + 1) (insF l 5 nl at_ [a, s, kd, pr, un]) nw k g (.slice e1 (nl + 1) f1) (.slice b2 nw d2)) := ⟨hBb.out.1, hBb.out.2, HB'.out.set1 _, HP4.out.kept (hk5 _ HA.out.1), HLL.out.kept (fun j hj => hk5 j (hub.out j hj).1), HW4.out.kept (fun j hj => hk5 j (HA.out.2.2.1 j hj).1)⟩
    have HBB5 : Hid (Below B w (w5.setCell ⟨b, 1, none⟩ (.slice e1 (nl + 1) f1))) := HBB.out.setCell hBb.out.1 _
    refine hK.out _ _ S5 (fun hS => ?_)
    clear hK K hk5 t0 t1 t2 ft0 ft1 ft2 HB' HP4 HLL HW4 HBB S5
    generalize w5.setCell ⟨b, 1, none⟩ (.slice e1 (nl + 1) f1) = w6 at HC5 HBB5 hS ⊢
    refine wpAnyH_done (by kernel_rfl) ?_ _
    go_simp
    by_cases hkd : kd = 1
    · subst hkd
      have HPP : Hid (∀ w', ((∃ q u1' u2', placeAt (aheadL l a) nl q ∧ Cols w' B b (N + 1) (putM m a s va) (nl + 1) (insF l 5 nl q [a, s, 1, pr, un]) nw k g u1' u2') ∧ Below B w w') → POST w') := fun w' h => HPO.out w' (by rw [if_pos rfl]; exact h)
      clear HPO
      obtain ⟨z0, z1, z2, z3, z4⟩ := hS
      obtain ⟨⟨t0, t1, t2⟩, _⟩ := HC5.out.2.2.1
      have HPM : Hid (PM w6 g N m) := HC5.out.2.2.2.1
      clear HA4
      obtain ⟨w7, hrun, hP7, hg7⟩ := PM.put (w := w6.drew) (HPM.out.kept rfl) (Nat.lt_of_le_of_lt hN (by decide)) wa ws wv
      have hk7 : ∀ i, i < w6.heap.size → i ≠ g → w7.heap[i]? = w6.heap[i]? := fun i hi hne => hg7.block i hi (fun e => hne (Option.some.inj e))
      have S7 : w7.cell? ⟨b, 0, none⟩ = some (.map (some g)) ∧ w7.cell? ⟨w.heap.size, 0, none⟩ = some (.int .i64 a) ∧ w7.cell? ⟨w.heap.size, 1, none⟩ = some (.int .i64 s) := by
        have e1 := hk7 b HC5.out.2.2.1.lt (fun e => HA.out.1 e.symm)
        have e2 := hk7 w.heap.size (lt_cell z0) (by omega)
        exact ⟨(cell_kept e1 0).trans t0, (cell_kept e2 0).trans z0, (cell_kept e2 1).trans z1⟩
      have hfin : Hid (POST w7) := HPP.out w7 ⟨⟨at_, _, _, HP.out, ⟨hBb.out.1, hBb.out.2, HC5.out.2.2.1.kept (hk7 b HC5.out.2.2.1.lt (fun e => HA.out.1 e.symm)), hP7, HC5.out.2.2.2.2.1.kept (fun j hj => hk7 j (own_in HC5.out.2.2.2.2.1 j hj).2 (hub.out j hj).2), HC5.out.2.2.2.2.2.kept (fun j hj => hk7 j (own_in HC5.out.2.2.2.2.2 j hj).2 (HA.out.2.2.1 j hj).2)⟩⟩, HBB5.out.trans ⟨hg7.os, hg7.tape, hg7.output, hg7.size, fun i hi => hk7 i (by have := hBb.out; have := HBB5.out.size; omega) (by have := hBb.out; omega)⟩⟩
      clear HPP HC5 HBB5 hk7 hP7 hg7 hub HA HPM
      go_upto_region 13 with fail
      refine wp_region_held_drew (S := fun X => X.cell? ⟨b, 0, none⟩ = some (.map (some g)) ∧ X.cell? ⟨w.heap.size, 0, none⟩ = some (.int .i64 a) ∧ X.cell? ⟨w.heap.size, 1, none⟩ = some (.int .i64 s)) (by kernel_rfl) ⟨t0, z0, z1⟩ (fun hS => ?_)
      refine wpAnyH_take (i := 0) (v := ?_) rfl (by kernel_rfl) (by kernel_rfl) (by kernel_rfl) (fun _ _ _ h => h) (Or.inl ⟨by kernel_rfl, ?_⟩) hS ?_
      rotate_left
      · intro wx hx
        obtain ⟨hx0, hx1, hx2⟩ := hx
        go_simp
        try with_reducible rfl
      refine wpAnyH_take (i := 1) (v := ?_) rfl (by kernel_rfl) (by kernel_rfl) (by kernel_rfl) (fun _ _ _ h => h) (Or.inl ⟨by kernel_rfl, ?_⟩) hS ?_
      rotate_left
      · intro wx hx
        obtain ⟨hx0, hx1, hx2⟩ := hx
        go_simp
        try with_reducible rfl
      refine wpAnyH_take (i := 2) (v := ?_) rfl (by kernel_rfl) (by kernel_rfl) (by kernel_rfl) (fun _ _ _ h => h) (Or.inl ⟨by kernel_rfl, ?_⟩) hS ?_
      rotate_left
      · intro wx hx
        obtain ⟨hx0, hx1, hx2⟩ := hx
        go_simp
        try with_reducible rfl
      refine wpAnyH_take (i := 3) (v := ?_) rfl (by kernel_rfl) (by kernel_rfl) (by kernel_rfl) (fun _ _ _ h => h) (Or.inl ⟨by kernel_rfl, ?_⟩) hS ?_
      rotate_left
      · intro wx hx
        obtain ⟨hx0, hx1, hx2⟩ := hx
        go_simp
        try with_reducible rfl
      refine wpAnyH_take (i := 4) (v := ?_) rfl (by kernel_rfl) (by kernel_rfl) (by kernel_rfl) (fun _ _ _ h => h) (Or.inl ⟨by kernel_rfl, ?_⟩) hS ?_
      rotate_left
      · intro wx hx
        obtain ⟨hx0, hx1, hx2⟩ := hx
        go_simp
        try with_reducible rfl
      refine wpAnyH_take (i := 5) (v := ?_) rfl (by kernel_rfl) (by kernel_rfl) (by kernel_rfl) (fun _ _ _ h => h) (Or.inl ⟨by kernel_rfl, ?_⟩) hS ?_
      rotate_left
      · intro wx hx
        obtain ⟨hx0, hx1, hx2⟩ := hx
        go_simp
        try with_reducible rfl
      refine wpAnyH_take (i := 6) (v := ?_) rfl (by kernel_rfl) (by kernel_rfl) (by kernel_rfl) (fun _ _ _ h => h) (Or.inl ⟨by kernel_rfl, ?_⟩) hS ?_
      rotate_left
      · intro wx hx
        obtain ⟨hx0, hx1, hx2⟩ := hx
        go_simp
        try with_reducible rfl
      refine wpAnyH_take (i := 7) (v := ?_) rfl (by kernel_rfl) (by kernel_rfl) (by kernel_rfl) (fun _ _ _ h => h) (Or.inl ⟨by kernel_rfl, ?_⟩) hS ?_
      rotate_left
      · intro wx hx
        obtain ⟨hx0, hx1, hx2⟩ := hx
        go_simp
        try with_reducible rfl
      refine wpAnyH_take (i := 8) (v := ?_) rfl (by kernel_rfl) (by kernel_rfl) (by kernel_rfl) (fun _ _ _ h => h) (Or.inl ⟨by kernel_rfl, ?_⟩) hS ?_
      rotate_left
      · intro wx hx
        obtain ⟨hx0, hx1, hx2⟩ := hx
        go_simp
        try with_reducible rfl
      refine wpAnyH_take (i := 9) (v := ?_) rfl (by kernel_rfl) (by kernel_rfl) (by kernel_rfl) (fun _ _ _ h => h) (Or.inl ⟨by kernel_rfl, ?_⟩) hS ?_
      rotate_left
      · intro wx hx
        obtain ⟨hx0, hx1, hx2⟩ := hx
        go_simp
        try with_reducible rfl
      refine wpAnyH_ready (rs := [10]) (by kernel_rfl) (by simp) ?_
      refine AllReadyH.cons rfl (fun K hK => ?_) AllReadyH.nil
      go_simp
      refine hK.out _ _ S7 (fun hS => ?_)
      clear hK K
      refine wpAnyH_done (by kernel_rfl) ?_ _
      go_simp
      go_wp2
      go_ret
      exact ⟨rfl, hfin.out⟩
    · have HPP : Hid (POST w6) := HPO.out w6 (by rw [if_neg hkd]; exact ⟨⟨at_, _, _, HP.out, ⟨HC5.out.1, HC5.out.2.1, HC5.out.2.2.1, HC5.out.2.2.2.1.mono (Nat.le_succ _), HC5.out.2.2.2.2⟩⟩, HBB5.out⟩)
      have dk : (kd == 1) = false := beq_eq_false_iff_ne.2 hkd
      clear HPO hkd HC5 HBB5 HA4 hub HA
      obtain ⟨z0, z1, z2, z3, z4⟩ := hS
      go_wp2
      go_ret
      exact ⟨rfl, HPP.out⟩
end

section
open Go.RowKit
-- Own text. The model's l3Newer.
def newerP (k : Nat → Int) (nw : Nat) (a s : Int) : Prop := ∃ i, lastW k nw a 100000 i ∧ s ≤ k (i * 4 + 1)
theorem lateP_iff {k : Nat → Int} {nw : Nat} {a s : Int} : lateP k nw a s ↔ (∃ i, firstW k nw a s i) ∨ newerP k nw a s := Iff.rfl
set_option maxRecDepth 100000 in
set_option maxHeartbeats 2000000 in
theorem l3Newer_is (S : Sto) (b : Nat) (v0 v1 v2 : Value) (a s : Int) (w : World) (h : Lies w b S v0 v1 v2) (hn : S.nw ≤ 200) (r : Bool) (hr : r = true ↔ newerP S.k S.nw a s) :
    Calls Tryz.prog 43 #[.pointer (some ⟨b, 0, none⟩), .int .i64 a, .int .i64 s] w fun e w' => e = .returned (.bool r) ∧ Below w.heap.size w w' := by
  obtain ⟨a0, c0, a1, c1, a2, c2, rfl, rfl, rfl⟩ := h.2.form
  have H : Hid (Lies w b S (.slice a0 S.nc c0) (.slice a1 S.nl c1) (.slice a2 S.nw c2)) := h
  clear h
  by_cases hi : ∃ i, lastW S.k S.nw a 100000 i
  · obtain ⟨i, hi⟩ := hi
    obtain ⟨n1, N1⟩ : ∃ x, S.k (i * 4 + 1) = x := ⟨_, rfl⟩
    have e : r = decide (s ≤ n1) := by
      by_cases h1 : s ≤ n1
      · rw [decide_eq_true h1]; exact hr.2 ⟨i, hi, by rw [N1]; exact h1⟩
      · rw [decide_eq_false h1]
        cases r with
        | false => rfl
        | true => obtain ⟨j, hj, h2⟩ := hr.1 rfl; obtain rfl := hj.one hi; rw [N1] at h2; exact absurd h2 h1
    have HN : Hid (lastW S.k S.nw a 100000 i) := hi
    have HV : Hid (S.k (i * 4 + 1) = n1) := N1
    have hin : (i : Int) < (S.nw : Int) := by have := hi.1; omega
    clear N1 hi hr
    subst e
    go_enter Tryz.func43, Tryz.ntmps43
    go_wp2_with fail
    refine (l2Last_yes S b _ _ _ a 100000 i _ H.out hn HN.out).mono ?_
    rintro e w1 ⟨rfl, q1⟩
    have HL : Lies w1 b S (.slice a0 S.nc c0) (.slice a1 S.nl c1) (.slice a2 S.nw c2) := H.out.later q1
    obtain ⟨g, o, rfl, _, hg, x0, x1, x2, x3⟩ := HL.2.2.2.at4 HN.out.1
    rw [HV.out] at x1
    have p2 := HL.1.2.2
    have HB : Hid (Below w.heap.size w w1) := q1
    clear HL q1 H HN HV
    go_wp2
    go_ret
    exact ⟨rfl, HB.out⟩
  · obtain rfl : r = false := by
      cases r with
      | false => rfl
      | true => obtain ⟨i, h1, _⟩ := hr.1 rfl; exact absurd ⟨i, h1⟩ hi
    have HN : Hid (∀ i, ¬ lastW S.k S.nw a 100000 i) := fun i q => hi ⟨i, q⟩
    clear hi hr
    go_enter Tryz.func43, Tryz.ntmps43
    go_wp2_with fail
    refine (l2Last_no S b _ _ _ a 100000 _ H.out hn HN.out).mono ?_
    rintro e w1 ⟨rfl, q1⟩
    have HB : Hid (Below w.heap.size w w1) := q1
    clear q1 H HN
    go_wp2
    go_ret
    exact ⟨rfl, HB.out⟩
end

section
open Go.RowKit Go.Lib
-- Own text. The model's l3Prewrite: the ways that refuse, and what is there already.
/-- The call's own blocks and the store that it was given. -/
def PrS (w : World) (b : Nat) (S : Sto) (v0 v1 v2 : Value) (a s kd pr un : Int) (x : World) : Prop :=
  LkE w a s kd pr un x ∧ Blk4 x (w.heap.size + 1) (.int .i64 0) (.slice none 0 0) (.slice none 0 0) (.slice none 0 0) ∧ Lies x b S v0 v1 v2
theorem PrS.later {w x x' : World} {b : Nat} {S : Sto} {v0 v1 v2 : Value} {a s kd pr un : Int} (h : PrS w b S v0 v1 v2 a s kd pr un x) (hb : Below x.heap.size x x') : PrS w b S v0 v1 v2 a s kd pr un x' := ⟨h.1.later hb, h.2.1.later hb, h.2.2.later hb⟩
set_option maxRecDepth 100000 in
set_option maxHeartbeats 8000000 in
theorem l3Pre_said (S : Sto) (b : Nat) (v0 v1 v2 : Value) (a s kd pr un va : Int) (i : Nat) (w : World) (h : Lies w b S v0 v1 v2) (hz : storeF S = 0) (hi : FirstAt (writeIs S.k a s) S.nw i) :
    Calls Tryz.prog 21 #[.pointer (some ⟨b, 0, none⟩), .agg #[.int .i64 a, .int .i64 s, .int .i64 kd, .int .i64 pr, .int .i64 un], .int .i64 va] w (ResSto w 8 emptyS) := by
  obtain ⟨a0, c0, a1, c1, a2, c2, rfl, rfl, rfl⟩ := h.2.form
  have HE : Hid (PrS w b S (.slice a0 S.nc c0) (.slice a1 S.nl c1) (.slice a2 S.nw c2) a s kd pr un ((w.alloc (.cells #[.int .i64 a, .int .i64 s, .int .i64 kd, .int .i64 pr, .int .i64 un] 53)).alloc (.cells #[.int .i64 0, .slice none 0 0, .slice none 0 0, .slice none 0 0] 34))) := by
    refine ⟨(LkE.new w a s kd pr un _).later (below_alloc _ _), ?_, (h.later (below_alloc _ _)).later (below_alloc _ _)⟩
    have := Blk4.new (w.alloc (.cells #[.int .i64 a, .int .i64 s, .int .i64 kd, .int .i64 pr, .int .i64 un] 53)) (.int .i64 0) (.slice none 0 0) (.slice none 0 0) (.slice none 0 0) 34
    rwa [World.size_alloc] at this
  obtain ⟨⟨hn0, hn1, hn2⟩, _⟩ := storeF_zero hz
  clear h hz
  go_enter Tryz.func21, Tryz.ntmps21
  go_wp2_with fail
  generalize (w.alloc (.cells #[.int .i64 a, .int .i64 s, .int .i64 kd, .int .i64 pr, .int .i64 un] 53)).alloc (.cells #[.int .i64 0, .slice none 0 0, .slice none 0 0, .slice none 0 0] 34) = w1 at HE ⊢
  refine (l2Write_is S b _ _ _ a s i _ HE.out.2.2 hn2 hi).mono ?_
  rintro e w' ⟨rfl, rfl⟩
  obtain ⟨⟨⟨y0, y1, y2, y3, y4⟩, _⟩, ⟨⟨r0, r1, r2, r3⟩, f0, f1, f2, f3⟩, ⟨p0, p1, p2⟩, pst⟩ := HE.out
  unfold ResSto
  clear pst hi
  go_wp2_with fail
  refine (l3Bad_is 8 _).mono ?_
  rintro e w9 ⟨x0, z0, x1, z1, x2, z2, rfl, ⟨s4, f4, a4⟩, q4⟩
  have hsz : w.heap.size + 2 ≤ _ := HE.out.2.1.lt
  have S4 : Hid ((St w9 (w.heap.size + 2) emptyS (.slice x0 emptyS.nc z0) (.slice x1 emptyS.nl z1) (.slice x2 emptyS.nw z2) ∧ FreeS w9 emptyS (.slice x0 emptyS.nc z0) (.slice x1 emptyS.nl z1) (.slice x2 emptyS.nw z2)) ∧ ApartD emptyS (.slice x0 emptyS.nc z0) (.slice x1 emptyS.nl z1) (.slice x2 emptyS.nw z2)) := ⟨⟨s4.mono hsz, f4⟩, a4⟩
  have HBW : Hid (Below w.heap.size w w9) := (HE.out.later q4).1.2
  obtain ⟨⟨r0, r1, r2, r3⟩, f0, f1, f2, f3⟩ := (HE.out.later q4).2.1
  clear s4 f4 a4 q4 hsz
  have hlo : (w.heap.size + 1 : Nat) < w.heap.size + 2 := Nat.lt_succ_self _
  go_wp2
  exact bodyPost_ret (v := .agg #[.int .i64 8, .slice x0 emptyS.nc z0, .slice x1 emptyS.nl z1, .slice x2 emptyS.nw z2]) (by simp [results, Tryz.results21, go_sem, r0, r1, r2, r3]) rfl ⟨x0, z0, x1, z1, x2, z2, rfl, ⟨((((S4.out.1.1.far hlo _).far hlo _).far hlo _).far hlo _).mono (by omega), (((S4.out.1.2.far _ _).far _ _).far _ _).far _ _, S4.out.2⟩, (((HBW.out.setCell (Nat.le_succ _) _).setCell (Nat.le_succ _) _).setCell (Nat.le_succ _) _).setCell (Nat.le_succ _) _⟩
set_option maxRecDepth 100000 in
set_option maxHeartbeats 8000000 in
theorem l3Pre_newer (S : Sto) (b : Nat) (v0 v1 v2 : Value) (a s kd pr un va : Int) (w : World) (h : Lies w b S v0 v1 v2) (hz : storeF S = 0) (hi : FirstAt (writeIs S.k a s) S.nw (-1)) (hm : newerP S.k S.nw a s) :
    Calls Tryz.prog 21 #[.pointer (some ⟨b, 0, none⟩), .agg #[.int .i64 a, .int .i64 s, .int .i64 kd, .int .i64 pr, .int .i64 un], .int .i64 va] w (ResSto w 8 emptyS) := by
  obtain ⟨a0, c0, a1, c1, a2, c2, rfl, rfl, rfl⟩ := h.2.form
  have HE : Hid (PrS w b S (.slice a0 S.nc c0) (.slice a1 S.nl c1) (.slice a2 S.nw c2) a s kd pr un ((w.alloc (.cells #[.int .i64 a, .int .i64 s, .int .i64 kd, .int .i64 pr, .int .i64 un] 53)).alloc (.cells #[.int .i64 0, .slice none 0 0, .slice none 0 0, .slice none 0 0] 34))) := by
    refine ⟨(LkE.new w a s kd pr un _).later (below_alloc _ _), ?_, (h.later (below_alloc _ _)).later (below_alloc _ _)⟩
    have := Blk4.new (w.alloc (.cells #[.int .i64 a, .int .i64 s, .int .i64 kd, .int .i64 pr, .int .i64 un] 53)) (.int .i64 0) (.slice none 0 0) (.slice none 0 0) (.slice none 0 0) 34
    rwa [World.size_alloc] at this
  obtain ⟨⟨hn0, hn1, hn2⟩, _⟩ := storeF_zero hz
  clear h hz
  go_enter Tryz.func21, Tryz.ntmps21
  go_wp2_with fail
  generalize (w.alloc (.cells #[.int .i64 a, .int .i64 s, .int .i64 kd, .int .i64 pr, .int .i64 un] 53)).alloc (.cells #[.int .i64 0, .slice none 0 0, .slice none 0 0, .slice none 0 0] 34) = w1 at HE ⊢
  refine (l2Write_is S b _ _ _ a s (-1) _ HE.out.2.2 hn2 hi).mono ?_
  rintro e w' ⟨rfl, rfl⟩
  obtain ⟨⟨⟨y0, y1, y2, y3, y4⟩, _⟩, ⟨⟨r0, r1, r2, r3⟩, f0, f1, f2, f3⟩, ⟨p0, p1, p2⟩, pst⟩ := HE.out
  unfold ResSto
  clear pst hi
  have HM : Hid (newerP S.k S.nw a s) := hm
  clear hm
  go_wp2_with fail
  refine (l3Newer_is S b _ _ _ a s _ HE.out.2.2 hn2 true ⟨fun _ => HM.out, fun _ => rfl⟩).mono ?_
  rintro e w3 ⟨rfl, q3⟩
  have HE : Hid (PrS w b S (.slice a0 S.nc c0) (.slice a1 S.nl c1) (.slice a2 S.nw c2) a s kd pr un w3) := HE.out.later q3
  clear q3 y0 y1 y2 y3 y4 r0 r1 r2 r3 f0 f1 f2 f3 p0 p1 p2
  obtain ⟨⟨⟨y0, y1, y2, y3, y4⟩, _⟩, ⟨⟨r0, r1, r2, r3⟩, f0, f1, f2, f3⟩, ⟨p0, p1, p2⟩, pst⟩ := HE.out
  clear pst
  go_wp2_with fail
  refine (l3Bad_is 8 _).mono ?_
  rintro e w9 ⟨x0, z0, x1, z1, x2, z2, rfl, ⟨s4, f4, a4⟩, q4⟩
  have hsz : w.heap.size + 2 ≤ _ := HE.out.2.1.lt
  have S4 : Hid ((St w9 (w.heap.size + 2) emptyS (.slice x0 emptyS.nc z0) (.slice x1 emptyS.nl z1) (.slice x2 emptyS.nw z2) ∧ FreeS w9 emptyS (.slice x0 emptyS.nc z0) (.slice x1 emptyS.nl z1) (.slice x2 emptyS.nw z2)) ∧ ApartD emptyS (.slice x0 emptyS.nc z0) (.slice x1 emptyS.nl z1) (.slice x2 emptyS.nw z2)) := ⟨⟨s4.mono hsz, f4⟩, a4⟩
  have HBW : Hid (Below w.heap.size w w9) := (HE.out.later q4).1.2
  obtain ⟨⟨r0, r1, r2, r3⟩, f0, f1, f2, f3⟩ := (HE.out.later q4).2.1
  clear s4 f4 a4 q4 hsz
  have hlo : (w.heap.size + 1 : Nat) < w.heap.size + 2 := Nat.lt_succ_self _
  go_wp2
  exact bodyPost_ret (v := .agg #[.int .i64 8, .slice x0 emptyS.nc z0, .slice x1 emptyS.nl z1, .slice x2 emptyS.nw z2]) (by simp [results, Tryz.results21, go_sem, r0, r1, r2, r3]) rfl ⟨x0, z0, x1, z1, x2, z2, rfl, ⟨((((S4.out.1.1.far hlo _).far hlo _).far hlo _).far hlo _).mono (by omega), (((S4.out.1.2.far _ _).far _ _).far _ _).far _ _, S4.out.2⟩, (((HBW.out.setCell (Nat.le_succ _) _).setCell (Nat.le_succ _) _).setCell (Nat.le_succ _) _).setCell (Nat.le_succ _) _⟩
set_option maxRecDepth 100000 in
set_option maxHeartbeats 8000000 in
theorem l3Pre_same (S : Sto) (b : Nat) (v0 v1 v2 : Value) (a s kd pr un va : Int) (j : Nat) (w : World) (h : Lies w b S v0 v1 v2) (hz : storeF S = 0) (hi : FirstAt (writeIs S.k a s) S.nw (-1)) (hm : ¬ newerP S.k S.nw a s) (hl : FirstAt (lockIs S.l a) S.nl j) (hj : S.l (j * 5 + 1) = s) :
    Calls Tryz.prog 21 #[.pointer (some ⟨b, 0, none⟩), .agg #[.int .i64 a, .int .i64 s, .int .i64 kd, .int .i64 pr, .int .i64 un], .int .i64 va] w (ResSto w 0 S) := by
  have HJ : Hid (FirstAt (lockIs S.l a) S.nl j ∧ S.l (j * 5 + 1) = s) := ⟨hl, hj⟩
  clear hl hj
  obtain ⟨a0, c0, a1, c1, a2, c2, rfl, rfl, rfl⟩ := h.2.form
  have HE : Hid (PrS w b S (.slice a0 S.nc c0) (.slice a1 S.nl c1) (.slice a2 S.nw c2) a s kd pr un ((w.alloc (.cells #[.int .i64 a, .int .i64 s, .int .i64 kd, .int .i64 pr, .int .i64 un] 53)).alloc (.cells #[.int .i64 0, .slice none 0 0, .slice none 0 0, .slice none 0 0] 34))) := by
    refine ⟨(LkE.new w a s kd pr un _).later (below_alloc _ _), ?_, (h.later (below_alloc _ _)).later (below_alloc _ _)⟩
    have := Blk4.new (w.alloc (.cells #[.int .i64 a, .int .i64 s, .int .i64 kd, .int .i64 pr, .int .i64 un] 53)) (.int .i64 0) (.slice none 0 0) (.slice none 0 0) (.slice none 0 0) 34
    rwa [World.size_alloc] at this
  obtain ⟨⟨hn0, hn1, hn2⟩, _⟩ := storeF_zero hz
  clear h hz
  go_enter Tryz.func21, Tryz.ntmps21
  go_wp2_with fail
  generalize (w.alloc (.cells #[.int .i64 a, .int .i64 s, .int .i64 kd, .int .i64 pr, .int .i64 un] 53)).alloc (.cells #[.int .i64 0, .slice none 0 0, .slice none 0 0, .slice none 0 0] 34) = w1 at HE ⊢
  refine (l2Write_is S b _ _ _ a s (-1) _ HE.out.2.2 hn2 hi).mono ?_
  rintro e w' ⟨rfl, rfl⟩
  obtain ⟨⟨⟨y0, y1, y2, y3, y4⟩, _⟩, ⟨⟨r0, r1, r2, r3⟩, f0, f1, f2, f3⟩, ⟨p0, p1, p2⟩, pst⟩ := HE.out
  unfold ResSto
  clear pst hi
  have HM : Hid (¬ newerP S.k S.nw a s) := hm
  clear hm
  go_wp2_with fail
  refine (l3Newer_is S b _ _ _ a s _ HE.out.2.2 hn2 false ⟨fun q => (Bool.false_ne_true q).elim, fun q => (HM.out q).elim⟩).mono ?_
  rintro e w3 ⟨rfl, q3⟩
  have HE : Hid (PrS w b S (.slice a0 S.nc c0) (.slice a1 S.nl c1) (.slice a2 S.nw c2) a s kd pr un w3) := HE.out.later q3
  clear q3 y0 y1 y2 y3 y4 r0 r1 r2 r3 f0 f1 f2 f3 p0 p1 p2 HM
  obtain ⟨⟨⟨y0, y1, y2, y3, y4⟩, _⟩, ⟨⟨r0, r1, r2, r3⟩, f0, f1, f2, f3⟩, ⟨p0, p1, p2⟩, pst⟩ := HE.out
  clear pst
  go_wp2_with fail
  refine (l2Copy_cap S _ _ _ 0 _ HE.out.2.2.2 ⟨by omega, by omega, by omega⟩).mono ?_
  rintro e w4 ⟨d0, e0, d1, e1, d2, e2, ⟨g0, g1, g2⟩, rfl, ⟨s2, fr2, ap2⟩, q2⟩
  have hz3 : Hid (w.heap.size + 2 ≤ w3.heap.size) := HE.out.2.1.lt
  have HS : Hid ((St w4 w3.heap.size S (.slice d0 S.nc e0) (.slice d1 S.nl e1) (.slice d2 S.nw e2) ∧ FreeS w4 S (.slice d0 S.nc e0) (.slice d1 S.nl e1) (.slice d2 S.nw e2)) ∧ ApartD S (.slice d0 S.nc e0) (.slice d1 S.nl e1) (.slice d2 S.nw e2)) := ⟨⟨s2, fr2⟩, ap2⟩
  have HE : Hid (PrS w b S (.slice a0 S.nc c0) (.slice a1 S.nl c1) (.slice a2 S.nw c2) a s kd pr un (w4.alloc (.cells #[.slice d0 S.nc e0, .slice d1 S.nl e1, .slice d2 S.nw e2] 32)) ∧ Blk3 (w4.alloc (.cells #[.slice d0 S.nc e0, .slice d1 S.nl e1, .slice d2 S.nw e2] 32)) w4.heap.size (.slice d0 S.nc e0) (.slice d1 S.nl e1) (.slice d2 S.nw e2)) := ⟨(HE.out.later q2).later (below_alloc _ _), Blk3.new _ _ _ _ _⟩
  have hz4 : Hid (w3.heap.size ≤ w4.heap.size) := q2.size
  have B45 : Hid (Below w4.heap.size w4 (w4.alloc (.cells #[.slice d0 S.nc e0, .slice d1 S.nl e1, .slice d2 S.nw e2] 32))) := below_alloc _ _
  clear s2 fr2 ap2 q2 y0 y1 y2 y3 y4 r0 r1 r2 r3 f0 f1 f2 f3 p0 p1 p2
  have HO : Hid (Blk3 (w4.alloc (.cells #[.slice d0 S.nc e0, .slice d1 S.nl e1, .slice d2 S.nw e2] 32)) w4.heap.size (.slice d0 S.nc e0) (.slice d1 S.nl e1) (.slice d2 S.nw e2)) := HE.out.2
  have HE : Hid (PrS w b S (.slice a0 S.nc c0) (.slice a1 S.nl c1) (.slice a2 S.nw c2) a s kd pr un (w4.alloc (.cells #[.slice d0 S.nc e0, .slice d1 S.nl e1, .slice d2 S.nw e2] 32))) := HE.out.1
  obtain ⟨⟨⟨y0, y1, y2, y3, y4⟩, _⟩, ⟨⟨r0, r1, r2, r3⟩, f0, f1, f2, f3⟩, ⟨p0, p1, p2⟩, pst⟩ := HE.out
  go_wp2_with fail
  clear y0 y1 y2 y3 y4 r0 r1 r2 r3 f0 f1 f2 f3 p0 p1 p2 pst
  generalize w4.alloc (.cells #[.slice d0 S.nc e0, .slice d1 S.nl e1, .slice d2 S.nw e2] 32) = w5 at HE HO B45 ⊢
  obtain ⟨⟨⟨y0, y1, y2, y3, y4⟩, _⟩, ⟨⟨r0, r1, r2, r3⟩, f0, f1, f2, f3⟩, ⟨p0, p1, p2⟩, pst⟩ := HE.out
  obtain ⟨⟨t0, t1, t2⟩, _⟩ := HO.out
  refine (l2Lock_is S b _ _ _ a j _ HE.out.2.2 hn1 HJ.out.1).mono ?_
  rintro e w' ⟨rfl, rfl⟩
  obtain ⟨g, o, hg, _, hgl, x0, x1, x2, x3, x4⟩ := pst.2.1.at5 HJ.out.1.at.1
  subst hg
  rw [HJ.out.2] at x1
  have hjn : (j : Int) < (S.nl : Int) := by have := HJ.out.1.at.1; omega
  clear pst HJ
  clear r0 r1 r2 r3 f0 f1 f2 f3 t0 t1 t2
  go_upto_region 6 with fail
  refine wp_region_held_drew (S := fun X => X.cell? ⟨b, 1, none⟩ = some (.slice (some ⟨g, o, none⟩) S.nl c1) ∧ X.cell? ⟨w.heap.size, 1, none⟩ = some (.int .i64 s) ∧ X.cell? ⟨g, o + j * 5 + 1, none⟩ = some (.int .i64 s)) (by kernel_rfl) ⟨p1, y1, x1⟩ (fun hS => ?_)
  refine wpAnyH_take (i := 0) (v := ?_) rfl (by kernel_rfl) (by kernel_rfl) (by kernel_rfl) (fun _ _ _ h => h) (Or.inl ⟨by kernel_rfl, ?_⟩) hS ?_
  rotate_left
  · intro wx hx
    obtain ⟨hx0, hx1, hx2⟩ := hx
    go_simp
    try with_reducible rfl
  refine wpAnyH_take (i := 1) (v := ?_) rfl (by kernel_rfl) (by kernel_rfl) (by kernel_rfl) (fun _ _ _ h => h) (Or.inl ⟨by kernel_rfl, ?_⟩) hS ?_
  rotate_left
  · intro wx hx
    obtain ⟨hx0, hx1, hx2⟩ := hx
    go_simp
    try with_reducible rfl
  refine wpAnyH_take (i := 2) (v := ?_) rfl (by kernel_rfl) (by kernel_rfl) (by kernel_rfl) (fun _ _ _ h => h) (Or.inl ⟨by kernel_rfl, ?_⟩) hS ?_
  rotate_left
  · intro wx hx
    obtain ⟨hx0, hx1, hx2⟩ := hx
    go_simp
    try with_reducible rfl
  refine wpAnyH_take (i := 3) (v := ?_) rfl (by kernel_rfl) (by kernel_rfl) (by kernel_rfl) (fun _ _ _ h => h) (Or.inl ⟨by kernel_rfl, ?_⟩) hS ?_
  rotate_left
  · intro wx hx
    obtain ⟨hx0, hx1, hx2⟩ := hx
    go_simp
    try with_reducible rfl
  refine wpAnyH_take (i := 4) (v := ?_) rfl (by kernel_rfl) (by kernel_rfl) (by kernel_rfl) (fun _ _ _ h => h) (Or.inl ⟨by kernel_rfl, ?_⟩) hS ?_
  rotate_left
  · intro wx hx
    obtain ⟨hx0, hx1, hx2⟩ := hx
    go_simp
    try with_reducible rfl
  refine wpAnyH_take (i := 5) (v := ?_) rfl (by kernel_rfl) (by kernel_rfl) (by kernel_rfl) (fun _ _ _ h => h) (Or.inl ⟨by kernel_rfl, ?_⟩) hS ?_
  rotate_left
  · intro wx hx
    obtain ⟨hx0, hx1, hx2⟩ := hx
    go_simp
    try with_reducible rfl
  refine wpAnyH_take (i := 6) (v := ?_) rfl (by kernel_rfl) (by kernel_rfl) (by kernel_rfl) (fun _ _ _ h => h) (Or.inl ⟨by kernel_rfl, ?_⟩) hS ?_
  rotate_left
  · intro wx hx
    obtain ⟨hx0, hx1, hx2⟩ := hx
    go_simp
    try with_reducible rfl
  refine wpAnyH_take (i := 7) (v := ?_) rfl (by kernel_rfl) (by kernel_rfl) (by kernel_rfl) (fun _ _ _ h => h) (Or.inl ⟨by kernel_rfl, ?_⟩) hS ?_
  rotate_left
  · intro wx hx
    obtain ⟨hx0, hx1, hx2⟩ := hx
    go_simp
    try with_reducible rfl
  refine wpAnyH_take (i := 8) (v := ?_) rfl (by kernel_rfl) (by kernel_rfl) (by kernel_rfl) (fun _ _ _ h => h) (Or.inl ⟨by kernel_rfl, ?_⟩) hS ?_
  rotate_left
  · intro wx hx
    obtain ⟨hx0, hx1, hx2⟩ := hx
    go_simp
    try with_reducible rfl
  refine wpAnyH_take (i := 9) (v := ?_) rfl (by kernel_rfl) (by kernel_rfl) (by kernel_rfl) (fun _ _ _ h => h) (Or.inl ⟨by kernel_rfl, ?_⟩) hS ?_
  rotate_left
  · intro wx hx
    obtain ⟨hx0, hx1, hx2⟩ := hx
    go_simp
    try with_reducible rfl
  refine wpAnyH_take (i := 10) (v := ?_) rfl (by kernel_rfl) (by kernel_rfl) (by kernel_rfl) (fun _ _ _ h => h) (Or.inl ⟨by kernel_rfl, ?_⟩) hS ?_
  rotate_left
  · intro wx hx
    obtain ⟨hx0, hx1, hx2⟩ := hx
    go_simp
    try with_reducible rfl
  refine wpAnyH_done (by kernel_rfl) ?_ _
  go_simp
  clear hS x0 x1 x2 x3 x4 p0 p1 p2 y0 y1 y2 y3 y4 hgl
  have HE : Hid (PrS w b S (.slice a0 S.nc c0) (.slice (some ⟨g, o, none⟩) S.nl c1) (.slice a2 S.nw c2) a s kd pr un w'.drew) := HE.out.later (below_drew _)
  have HO : Hid (Blk3 w'.drew w4.heap.size (.slice d0 S.nc e0) (.slice d1 S.nl e1) (.slice d2 S.nw e2)) := HO.out.later (below_drew _)
  have B45 : Hid (Below w4.heap.size w4 w'.drew) := B45.out.trans ((below_drew w').mono B45.out.size)
  generalize w'.drew = w6 at HE HO B45 ⊢
  obtain ⟨⟨⟨y0, y1, y2, y3, y4⟩, _⟩, ⟨⟨r0, r1, r2, r3⟩, f0, f1, f2, f3⟩, ⟨p0, p1, p2⟩, pst⟩ := HE.out
  obtain ⟨⟨t0, t1, t2⟩, _⟩ := HO.out
  clear pst
  go_wp2
  have S3 : St w6 w3.heap.size S (.slice d0 S.nc e0) (.slice d1 S.nl e1) (.slice d2 S.nw e2) := HS.out.1.1.later B45.out
  have F3 : FreeS w6 S (.slice d0 S.nc e0) (.slice d1 S.nl e1) (.slice d2 S.nw e2) := HS.out.1.2.later HS.out.1.1 B45.out
  have HBW : Below w.heap.size w w6 := HE.out.1.2
  have hlo : (w.heap.size + 1 : Nat) < w3.heap.size := by have := hz3.out; omega
  exact bodyPost_ret (v := .agg #[.int .i64 0, .slice d0 S.nc e0, .slice d1 S.nl e1, .slice d2 S.nw e2]) (by simp [results, Tryz.results21, go_sem, r0, r1, r2, r3]) rfl ⟨d0, e0, d1, e1, d2, e2, rfl, ⟨((((S3.far hlo _).far hlo _).far hlo _).far hlo _).mono (by omega), (((F3.far _ _).far _ _).far _ _).far _ _, HS.out.2⟩, (((HBW.setCell (Nat.le_succ _) _).setCell (Nat.le_succ _) _).setCell (Nat.le_succ _) _).setCell (Nat.le_succ _) _⟩
set_option maxRecDepth 100000 in
set_option maxHeartbeats 8000000 in
theorem l3Pre_locked (S : Sto) (b : Nat) (v0 v1 v2 : Value) (a s kd pr un va : Int) (j : Nat) (w : World) (h : Lies w b S v0 v1 v2) (hz : storeF S = 0) (hi : FirstAt (writeIs S.k a s) S.nw (-1)) (hm : ¬ newerP S.k S.nw a s) (hl : FirstAt (lockIs S.l a) S.nl j) (hj : S.l (j * 5 + 1) ≠ s) :
    Calls Tryz.prog 21 #[.pointer (some ⟨b, 0, none⟩), .agg #[.int .i64 a, .int .i64 s, .int .i64 kd, .int .i64 pr, .int .i64 un], .int .i64 va] w (ResSto w 7 emptyS) := by
  have HJ : Hid (FirstAt (lockIs S.l a) S.nl j ∧ S.l (j * 5 + 1) ≠ s) := ⟨hl, hj⟩
  clear hl hj
  obtain ⟨a0, c0, a1, c1, a2, c2, rfl, rfl, rfl⟩ := h.2.form
  have HE : Hid (PrS w b S (.slice a0 S.nc c0) (.slice a1 S.nl c1) (.slice a2 S.nw c2) a s kd pr un ((w.alloc (.cells #[.int .i64 a, .int .i64 s, .int .i64 kd, .int .i64 pr, .int .i64 un] 53)).alloc (.cells #[.int .i64 0, .slice none 0 0, .slice none 0 0, .slice none 0 0] 34))) := by
    refine ⟨(LkE.new w a s kd pr un _).later (below_alloc _ _), ?_, (h.later (below_alloc _ _)).later (below_alloc _ _)⟩
    have := Blk4.new (w.alloc (.cells #[.int .i64 a, .int .i64 s, .int .i64 kd, .int .i64 pr, .int .i64 un] 53)) (.int .i64 0) (.slice none 0 0) (.slice none 0 0) (.slice none 0 0) 34
    rwa [World.size_alloc] at this
  obtain ⟨⟨hn0, hn1, hn2⟩, _⟩ := storeF_zero hz
  clear h hz
  go_enter Tryz.func21, Tryz.ntmps21
  go_wp2_with fail
  generalize (w.alloc (.cells #[.int .i64 a, .int .i64 s, .int .i64 kd, .int .i64 pr, .int .i64 un] 53)).alloc (.cells #[.int .i64 0, .slice none 0 0, .slice none 0 0, .slice none 0 0] 34) = w1 at HE ⊢
  refine (l2Write_is S b _ _ _ a s (-1) _ HE.out.2.2 hn2 hi).mono ?_
  rintro e w' ⟨rfl, rfl⟩
  obtain ⟨⟨⟨y0, y1, y2, y3, y4⟩, _⟩, ⟨⟨r0, r1, r2, r3⟩, f0, f1, f2, f3⟩, ⟨p0, p1, p2⟩, pst⟩ := HE.out
  unfold ResSto
  clear pst hi
  have HM : Hid (¬ newerP S.k S.nw a s) := hm
  clear hm
  go_wp2_with fail
  refine (l3Newer_is S b _ _ _ a s _ HE.out.2.2 hn2 false ⟨fun q => (Bool.false_ne_true q).elim, fun q => (HM.out q).elim⟩).mono ?_
  rintro e w3 ⟨rfl, q3⟩
  have HE : Hid (PrS w b S (.slice a0 S.nc c0) (.slice a1 S.nl c1) (.slice a2 S.nw c2) a s kd pr un w3) := HE.out.later q3
  clear q3 y0 y1 y2 y3 y4 r0 r1 r2 r3 f0 f1 f2 f3 p0 p1 p2 HM
  obtain ⟨⟨⟨y0, y1, y2, y3, y4⟩, _⟩, ⟨⟨r0, r1, r2, r3⟩, f0, f1, f2, f3⟩, ⟨p0, p1, p2⟩, pst⟩ := HE.out
  clear pst
  go_wp2_with fail
  refine (l2Copy_cap S _ _ _ 0 _ HE.out.2.2.2 ⟨by omega, by omega, by omega⟩).mono ?_
  rintro e w4 ⟨d0, e0, d1, e1, d2, e2, ⟨g0, g1, g2⟩, rfl, ⟨s2, fr2, ap2⟩, q2⟩
  have hz3 : Hid (w.heap.size + 2 ≤ w3.heap.size) := HE.out.2.1.lt
  have HS : Hid ((St w4 w3.heap.size S (.slice d0 S.nc e0) (.slice d1 S.nl e1) (.slice d2 S.nw e2) ∧ FreeS w4 S (.slice d0 S.nc e0) (.slice d1 S.nl e1) (.slice d2 S.nw e2)) ∧ ApartD S (.slice d0 S.nc e0) (.slice d1 S.nl e1) (.slice d2 S.nw e2)) := ⟨⟨s2, fr2⟩, ap2⟩
  have HE : Hid (PrS w b S (.slice a0 S.nc c0) (.slice a1 S.nl c1) (.slice a2 S.nw c2) a s kd pr un (w4.alloc (.cells #[.slice d0 S.nc e0, .slice d1 S.nl e1, .slice d2 S.nw e2] 32)) ∧ Blk3 (w4.alloc (.cells #[.slice d0 S.nc e0, .slice d1 S.nl e1, .slice d2 S.nw e2] 32)) w4.heap.size (.slice d0 S.nc e0) (.slice d1 S.nl e1) (.slice d2 S.nw e2)) := ⟨(HE.out.later q2).later (below_alloc _ _), Blk3.new _ _ _ _ _⟩
  have hz4 : Hid (w3.heap.size ≤ w4.heap.size) := q2.size
  have B45 : Hid (Below w4.heap.size w4 (w4.alloc (.cells #[.slice d0 S.nc e0, .slice d1 S.nl e1, .slice d2 S.nw e2] 32))) := below_alloc _ _
  clear s2 fr2 ap2 q2 y0 y1 y2 y3 y4 r0 r1 r2 r3 f0 f1 f2 f3 p0 p1 p2
  have HO : Hid (Blk3 (w4.alloc (.cells #[.slice d0 S.nc e0, .slice d1 S.nl e1, .slice d2 S.nw e2] 32)) w4.heap.size (.slice d0 S.nc e0) (.slice d1 S.nl e1) (.slice d2 S.nw e2)) := HE.out.2
  have HE : Hid (PrS w b S (.slice a0 S.nc c0) (.slice a1 S.nl c1) (.slice a2 S.nw c2) a s kd pr un (w4.alloc (.cells #[.slice d0 S.nc e0, .slice d1 S.nl e1, .slice d2 S.nw e2] 32))) := HE.out.1
  obtain ⟨⟨⟨y0, y1, y2, y3, y4⟩, _⟩, ⟨⟨r0, r1, r2, r3⟩, f0, f1, f2, f3⟩, ⟨p0, p1, p2⟩, pst⟩ := HE.out
  go_wp2_with fail
  clear y0 y1 y2 y3 y4 r0 r1 r2 r3 f0 f1 f2 f3 p0 p1 p2 pst
  generalize w4.alloc (.cells #[.slice d0 S.nc e0, .slice d1 S.nl e1, .slice d2 S.nw e2] 32) = w5 at HE HO B45 ⊢
  obtain ⟨⟨⟨y0, y1, y2, y3, y4⟩, _⟩, ⟨⟨r0, r1, r2, r3⟩, f0, f1, f2, f3⟩, ⟨p0, p1, p2⟩, pst⟩ := HE.out
  obtain ⟨⟨t0, t1, t2⟩, _⟩ := HO.out
  refine (l2Lock_is S b _ _ _ a j _ HE.out.2.2 hn1 HJ.out.1).mono ?_
  rintro e w' ⟨rfl, rfl⟩
  obtain ⟨g, o, hg, _, hgl, x0, x1, x2, x3, x4⟩ := pst.2.1.at5 HJ.out.1.at.1
  subst hg
  obtain ⟨n1, N1⟩ : ∃ x, S.l (j * 5 + 1) = x := ⟨_, rfl⟩
  rw [N1] at x1
  have dn : (n1 == s) = false := beq_eq_false_iff_ne.2 (by rw [← N1]; exact HJ.out.2)
  have hjn : (j : Int) < (S.nl : Int) := by have := HJ.out.1.at.1; omega
  clear pst HJ N1
  clear r0 r1 r2 r3 f0 f1 f2 f3 t0 t1 t2
  go_upto_region 6 with fail
  refine wp_region_held_drew (S := fun X => X.cell? ⟨b, 1, none⟩ = some (.slice (some ⟨g, o, none⟩) S.nl c1) ∧ X.cell? ⟨w.heap.size, 1, none⟩ = some (.int .i64 s) ∧ X.cell? ⟨g, o + j * 5 + 1, none⟩ = some (.int .i64 n1)) (by kernel_rfl) ⟨p1, y1, x1⟩ (fun hS => ?_)
  refine wpAnyH_take (i := 0) (v := ?_) rfl (by kernel_rfl) (by kernel_rfl) (by kernel_rfl) (fun _ _ _ h => h) (Or.inl ⟨by kernel_rfl, ?_⟩) hS ?_
  rotate_left
  · intro wx hx
    obtain ⟨hx0, hx1, hx2⟩ := hx
    go_simp
    try with_reducible rfl
  refine wpAnyH_take (i := 1) (v := ?_) rfl (by kernel_rfl) (by kernel_rfl) (by kernel_rfl) (fun _ _ _ h => h) (Or.inl ⟨by kernel_rfl, ?_⟩) hS ?_
  rotate_left
  · intro wx hx
    obtain ⟨hx0, hx1, hx2⟩ := hx
    go_simp
    try with_reducible rfl
  refine wpAnyH_take (i := 2) (v := ?_) rfl (by kernel_rfl) (by kernel_rfl) (by kernel_rfl) (fun _ _ _ h => h) (Or.inl ⟨by kernel_rfl, ?_⟩) hS ?_
  rotate_left
  · intro wx hx
    obtain ⟨hx0, hx1, hx2⟩ := hx
    go_simp
    try with_reducible rfl
  refine wpAnyH_take (i := 3) (v := ?_) rfl (by kernel_rfl) (by kernel_rfl) (by kernel_rfl) (fun _ _ _ h => h) (Or.inl ⟨by kernel_rfl, ?_⟩) hS ?_
  rotate_left
  · intro wx hx
    obtain ⟨hx0, hx1, hx2⟩ := hx
    go_simp
    try with_reducible rfl
  refine wpAnyH_take (i := 4) (v := ?_) rfl (by kernel_rfl) (by kernel_rfl) (by kernel_rfl) (fun _ _ _ h => h) (Or.inl ⟨by kernel_rfl, ?_⟩) hS ?_
  rotate_left
  · intro wx hx
    obtain ⟨hx0, hx1, hx2⟩ := hx
    go_simp
    try with_reducible rfl
  refine wpAnyH_take (i := 5) (v := ?_) rfl (by kernel_rfl) (by kernel_rfl) (by kernel_rfl) (fun _ _ _ h => h) (Or.inl ⟨by kernel_rfl, ?_⟩) hS ?_
  rotate_left
  · intro wx hx
    obtain ⟨hx0, hx1, hx2⟩ := hx
    go_simp
    try with_reducible rfl
  refine wpAnyH_take (i := 6) (v := ?_) rfl (by kernel_rfl) (by kernel_rfl) (by kernel_rfl) (fun _ _ _ h => h) (Or.inl ⟨by kernel_rfl, ?_⟩) hS ?_
  rotate_left
  · intro wx hx
    obtain ⟨hx0, hx1, hx2⟩ := hx
    go_simp
    try with_reducible rfl
  refine wpAnyH_take (i := 7) (v := ?_) rfl (by kernel_rfl) (by kernel_rfl) (by kernel_rfl) (fun _ _ _ h => h) (Or.inl ⟨by kernel_rfl, ?_⟩) hS ?_
  rotate_left
  · intro wx hx
    obtain ⟨hx0, hx1, hx2⟩ := hx
    go_simp
    try with_reducible rfl
  refine wpAnyH_take (i := 8) (v := ?_) rfl (by kernel_rfl) (by kernel_rfl) (by kernel_rfl) (fun _ _ _ h => h) (Or.inl ⟨by kernel_rfl, ?_⟩) hS ?_
  rotate_left
  · intro wx hx
    obtain ⟨hx0, hx1, hx2⟩ := hx
    go_simp
    try with_reducible rfl
  refine wpAnyH_take (i := 9) (v := ?_) rfl (by kernel_rfl) (by kernel_rfl) (by kernel_rfl) (fun _ _ _ h => h) (Or.inl ⟨by kernel_rfl, ?_⟩) hS ?_
  rotate_left
  · intro wx hx
    obtain ⟨hx0, hx1, hx2⟩ := hx
    go_simp
    try with_reducible rfl
  refine wpAnyH_take (i := 10) (v := ?_) rfl (by kernel_rfl) (by kernel_rfl) (by kernel_rfl) (fun _ _ _ h => h) (Or.inl ⟨by kernel_rfl, ?_⟩) hS ?_
  rotate_left
  · intro wx hx
    obtain ⟨hx0, hx1, hx2⟩ := hx
    go_simp
    try with_reducible rfl
  refine wpAnyH_done (by kernel_rfl) ?_ _
  go_simp
  clear hS x0 x1 x2 x3 x4 p0 p1 p2 y0 y1 y2 y3 y4 hgl
  have HE : Hid (PrS w b S (.slice a0 S.nc c0) (.slice (some ⟨g, o, none⟩) S.nl c1) (.slice a2 S.nw c2) a s kd pr un w'.drew) := HE.out.later (below_drew _)
  have HO : Hid (Blk3 w'.drew w4.heap.size (.slice d0 S.nc e0) (.slice d1 S.nl e1) (.slice d2 S.nw e2)) := HO.out.later (below_drew _)
  have B45 : Hid (Below w4.heap.size w4 w'.drew) := B45.out.trans ((below_drew w').mono B45.out.size)
  generalize w'.drew = w6 at HE HO B45 ⊢
  obtain ⟨⟨⟨y0, y1, y2, y3, y4⟩, _⟩, ⟨⟨r0, r1, r2, r3⟩, f0, f1, f2, f3⟩, ⟨p0, p1, p2⟩, pst⟩ := HE.out
  obtain ⟨⟨t0, t1, t2⟩, _⟩ := HO.out
  clear pst
  go_wp2_with fail
  refine (l3Bad_is 7 _).mono ?_
  rintro e w9 ⟨x0, z0, x1, z1, x2, z2, rfl, ⟨s4, f4, a4⟩, q4⟩
  have hsz : w.heap.size + 2 ≤ _ := HE.out.2.1.lt
  have S4 : Hid ((St w9 (w.heap.size + 2) emptyS (.slice x0 emptyS.nc z0) (.slice x1 emptyS.nl z1) (.slice x2 emptyS.nw z2) ∧ FreeS w9 emptyS (.slice x0 emptyS.nc z0) (.slice x1 emptyS.nl z1) (.slice x2 emptyS.nw z2)) ∧ ApartD emptyS (.slice x0 emptyS.nc z0) (.slice x1 emptyS.nl z1) (.slice x2 emptyS.nw z2)) := ⟨⟨s4.mono hsz, f4⟩, a4⟩
  have HBW : Hid (Below w.heap.size w w9) := (HE.out.later q4).1.2
  obtain ⟨⟨r0, r1, r2, r3⟩, f0, f1, f2, f3⟩ := (HE.out.later q4).2.1
  clear s4 f4 a4 q4 hsz
  have hlo : (w.heap.size + 1 : Nat) < w.heap.size + 2 := Nat.lt_succ_self _
  go_wp2
  exact bodyPost_ret (v := .agg #[.int .i64 7, .slice x0 emptyS.nc z0, .slice x1 emptyS.nl z1, .slice x2 emptyS.nw z2]) (by simp [results, Tryz.results21, go_sem, r0, r1, r2, r3]) rfl ⟨x0, z0, x1, z1, x2, z2, rfl, ⟨((((S4.out.1.1.far hlo _).far hlo _).far hlo _).far hlo _).mono (by omega), (((S4.out.1.2.far _ _).far _ _).far _ _).far _ _, S4.out.2⟩, (((HBW.out.setCell (Nat.le_succ _) _).setCell (Nat.le_succ _) _).setCell (Nat.le_succ _) _).setCell (Nat.le_succ _) _⟩
set_option maxRecDepth 100000 in
set_option maxHeartbeats 8000000 in
theorem l3Pre_many (S : Sto) (b : Nat) (v0 v1 v2 : Value) (a s kd pr un va : Int) (hv : Int) (w : World) (h : Lies w b S v0 v1 v2) (hz : storeF S = 0) (hi : FirstAt (writeIs S.k a s) S.nw (-1)) (hm : ¬ newerP S.k S.nw a s) (hl : FirstAt (lockIs S.l a) S.nl (-1)) (hc : FirstAt (cellIs S.c a s) S.nc hv) (hf : 200 ≤ S.nl ∨ kd = 1 ∧ hv = -1 ∧ 200 ≤ S.nc) :
    Calls Tryz.prog 21 #[.pointer (some ⟨b, 0, none⟩), .agg #[.int .i64 a, .int .i64 s, .int .i64 kd, .int .i64 pr, .int .i64 un], .int .i64 va] w (ResSto w 2 emptyS) := by
  have HJ : Hid (FirstAt (lockIs S.l a) S.nl (-1) ∧ FirstAt (cellIs S.c a s) S.nc hv) := ⟨hl, hc⟩
  clear hl hc
  have HF : Hid (200 ≤ S.nl ∨ kd = 1 ∧ hv = -1 ∧ 200 ≤ S.nc) := hf
  clear hf
  obtain ⟨a0, c0, a1, c1, a2, c2, rfl, rfl, rfl⟩ := h.2.form
  have HE : Hid (PrS w b S (.slice a0 S.nc c0) (.slice a1 S.nl c1) (.slice a2 S.nw c2) a s kd pr un ((w.alloc (.cells #[.int .i64 a, .int .i64 s, .int .i64 kd, .int .i64 pr, .int .i64 un] 53)).alloc (.cells #[.int .i64 0, .slice none 0 0, .slice none 0 0, .slice none 0 0] 34))) := by
    refine ⟨(LkE.new w a s kd pr un _).later (below_alloc _ _), ?_, (h.later (below_alloc _ _)).later (below_alloc _ _)⟩
    have := Blk4.new (w.alloc (.cells #[.int .i64 a, .int .i64 s, .int .i64 kd, .int .i64 pr, .int .i64 un] 53)) (.int .i64 0) (.slice none 0 0) (.slice none 0 0) (.slice none 0 0) 34
    rwa [World.size_alloc] at this
  obtain ⟨⟨hn0, hn1, hn2⟩, _⟩ := storeF_zero hz
  clear h hz
  go_enter Tryz.func21, Tryz.ntmps21
  go_wp2_with fail
  generalize (w.alloc (.cells #[.int .i64 a, .int .i64 s, .int .i64 kd, .int .i64 pr, .int .i64 un] 53)).alloc (.cells #[.int .i64 0, .slice none 0 0, .slice none 0 0, .slice none 0 0] 34) = w1 at HE ⊢
  refine (l2Write_is S b _ _ _ a s (-1) _ HE.out.2.2 hn2 hi).mono ?_
  rintro e w' ⟨rfl, rfl⟩
  obtain ⟨⟨⟨y0, y1, y2, y3, y4⟩, _⟩, ⟨⟨r0, r1, r2, r3⟩, f0, f1, f2, f3⟩, ⟨p0, p1, p2⟩, pst⟩ := HE.out
  unfold ResSto
  clear pst hi
  have HM : Hid (¬ newerP S.k S.nw a s) := hm
  clear hm
  go_wp2_with fail
  refine (l3Newer_is S b _ _ _ a s _ HE.out.2.2 hn2 false ⟨fun q => (Bool.false_ne_true q).elim, fun q => (HM.out q).elim⟩).mono ?_
  rintro e w3 ⟨rfl, q3⟩
  have HE : Hid (PrS w b S (.slice a0 S.nc c0) (.slice a1 S.nl c1) (.slice a2 S.nw c2) a s kd pr un w3) := HE.out.later q3
  clear q3 y0 y1 y2 y3 y4 r0 r1 r2 r3 f0 f1 f2 f3 p0 p1 p2 HM
  obtain ⟨⟨⟨y0, y1, y2, y3, y4⟩, _⟩, ⟨⟨r0, r1, r2, r3⟩, f0, f1, f2, f3⟩, ⟨p0, p1, p2⟩, pst⟩ := HE.out
  clear pst
  go_wp2_with fail
  refine (l2Copy_cap S _ _ _ 0 _ HE.out.2.2.2 ⟨by omega, by omega, by omega⟩).mono ?_
  rintro e w4 ⟨d0, e0, d1, e1, d2, e2, ⟨g0, g1, g2⟩, rfl, ⟨s2, fr2, ap2⟩, q2⟩
  have hz3 : Hid (w.heap.size + 2 ≤ w3.heap.size) := HE.out.2.1.lt
  have HS : Hid ((St w4 w3.heap.size S (.slice d0 S.nc e0) (.slice d1 S.nl e1) (.slice d2 S.nw e2) ∧ FreeS w4 S (.slice d0 S.nc e0) (.slice d1 S.nl e1) (.slice d2 S.nw e2)) ∧ ApartD S (.slice d0 S.nc e0) (.slice d1 S.nl e1) (.slice d2 S.nw e2)) := ⟨⟨s2, fr2⟩, ap2⟩
  have HE : Hid (PrS w b S (.slice a0 S.nc c0) (.slice a1 S.nl c1) (.slice a2 S.nw c2) a s kd pr un (w4.alloc (.cells #[.slice d0 S.nc e0, .slice d1 S.nl e1, .slice d2 S.nw e2] 32)) ∧ Blk3 (w4.alloc (.cells #[.slice d0 S.nc e0, .slice d1 S.nl e1, .slice d2 S.nw e2] 32)) w4.heap.size (.slice d0 S.nc e0) (.slice d1 S.nl e1) (.slice d2 S.nw e2)) := ⟨(HE.out.later q2).later (below_alloc _ _), Blk3.new _ _ _ _ _⟩
  have hz4 : Hid (w3.heap.size ≤ w4.heap.size) := q2.size
  have B45 : Hid (Below w4.heap.size w4 (w4.alloc (.cells #[.slice d0 S.nc e0, .slice d1 S.nl e1, .slice d2 S.nw e2] 32))) := below_alloc _ _
  clear s2 fr2 ap2 q2 y0 y1 y2 y3 y4 r0 r1 r2 r3 f0 f1 f2 f3 p0 p1 p2
  have HO : Hid (Blk3 (w4.alloc (.cells #[.slice d0 S.nc e0, .slice d1 S.nl e1, .slice d2 S.nw e2] 32)) w4.heap.size (.slice d0 S.nc e0) (.slice d1 S.nl e1) (.slice d2 S.nw e2)) := HE.out.2
  have HE : Hid (PrS w b S (.slice a0 S.nc c0) (.slice a1 S.nl c1) (.slice a2 S.nw c2) a s kd pr un (w4.alloc (.cells #[.slice d0 S.nc e0, .slice d1 S.nl e1, .slice d2 S.nw e2] 32))) := HE.out.1
  obtain ⟨⟨⟨y0, y1, y2, y3, y4⟩, _⟩, ⟨⟨r0, r1, r2, r3⟩, f0, f1, f2, f3⟩, ⟨p0, p1, p2⟩, pst⟩ := HE.out
  go_wp2_with fail
  clear y0 y1 y2 y3 y4 r0 r1 r2 r3 f0 f1 f2 f3 p0 p1 p2 pst
  generalize w4.alloc (.cells #[.slice d0 S.nc e0, .slice d1 S.nl e1, .slice d2 S.nw e2] 32) = w5 at HE HO B45 ⊢
  obtain ⟨⟨⟨y0, y1, y2, y3, y4⟩, _⟩, ⟨⟨r0, r1, r2, r3⟩, f0, f1, f2, f3⟩, ⟨p0, p1, p2⟩, pst⟩ := HE.out
  obtain ⟨⟨t0, t1, t2⟩, _⟩ := HO.out
  refine (l2Lock_is S b _ _ _ a (-1) _ HE.out.2.2 hn1 HJ.out.1).mono ?_
  rintro e w' ⟨rfl, rfl⟩
  clear pst
  go_wp2_with fail
  refine (cellAt_is S b _ _ _ a s _ _ HE.out.2.2 hn0 HJ.out.2).mono ?_
  rintro e w'' ⟨rfl, rfl⟩
  clear HJ
  rcases HF.out with q | ⟨q1, q2, q3⟩
  · have dn : decide ((200 : Int) ≤ (S.nl : Int)) = true := decide_eq_true (by omega)
    clear q HF
    go_wp2_with fail
    refine (l3Bad_is 2 _).mono ?_
    rintro e w9 ⟨x0, z0, x1, z1, x2, z2, rfl, ⟨s4, f4, a4⟩, q4⟩
    have hsz : w.heap.size + 2 ≤ _ := HE.out.2.1.lt
    have S4 : Hid ((St w9 (w.heap.size + 2) emptyS (.slice x0 emptyS.nc z0) (.slice x1 emptyS.nl z1) (.slice x2 emptyS.nw z2) ∧ FreeS w9 emptyS (.slice x0 emptyS.nc z0) (.slice x1 emptyS.nl z1) (.slice x2 emptyS.nw z2)) ∧ ApartD emptyS (.slice x0 emptyS.nc z0) (.slice x1 emptyS.nl z1) (.slice x2 emptyS.nw z2)) := ⟨⟨s4.mono hsz, f4⟩, a4⟩
    have HBW : Hid (Below w.heap.size w w9) := (HE.out.later q4).1.2
    obtain ⟨⟨r0, r1, r2, r3⟩, f0, f1, f2, f3⟩ := (HE.out.later q4).2.1
    clear s4 f4 a4 q4 hsz
    have hlo : (w.heap.size + 1 : Nat) < w.heap.size + 2 := Nat.lt_succ_self _
    go_wp2
    exact bodyPost_ret (v := .agg #[.int .i64 2, .slice x0 emptyS.nc z0, .slice x1 emptyS.nl z1, .slice x2 emptyS.nw z2]) (by simp [results, Tryz.results21, go_sem, r0, r1, r2, r3]) rfl ⟨x0, z0, x1, z1, x2, z2, rfl, ⟨((((S4.out.1.1.far hlo _).far hlo _).far hlo _).far hlo _).mono (by omega), (((S4.out.1.2.far _ _).far _ _).far _ _).far _ _, S4.out.2⟩, (((HBW.out.setCell (Nat.le_succ _) _).setCell (Nat.le_succ _) _).setCell (Nat.le_succ _) _).setCell (Nat.le_succ _) _⟩
  · subst q1 q2
    have dc : decide ((200 : Int) ≤ (S.nc : Int)) = true := decide_eq_true (by omega)
    clear q3 HF
    by_cases q : 200 ≤ S.nl
    · have dn : decide ((200 : Int) ≤ (S.nl : Int)) = true := decide_eq_true (by omega)
      clear q
      go_wp2_with fail
      refine (l3Bad_is 2 _).mono ?_
      rintro e w9 ⟨x0, z0, x1, z1, x2, z2, rfl, ⟨s4, f4, a4⟩, q4⟩
      have hsz : w.heap.size + 2 ≤ _ := HE.out.2.1.lt
      have S4 : Hid ((St w9 (w.heap.size + 2) emptyS (.slice x0 emptyS.nc z0) (.slice x1 emptyS.nl z1) (.slice x2 emptyS.nw z2) ∧ FreeS w9 emptyS (.slice x0 emptyS.nc z0) (.slice x1 emptyS.nl z1) (.slice x2 emptyS.nw z2)) ∧ ApartD emptyS (.slice x0 emptyS.nc z0) (.slice x1 emptyS.nl z1) (.slice x2 emptyS.nw z2)) := ⟨⟨s4.mono hsz, f4⟩, a4⟩
      have HBW : Hid (Below w.heap.size w w9) := (HE.out.later q4).1.2
      obtain ⟨⟨r0, r1, r2, r3⟩, f0, f1, f2, f3⟩ := (HE.out.later q4).2.1
      clear s4 f4 a4 q4 hsz
      have hlo : (w.heap.size + 1 : Nat) < w.heap.size + 2 := Nat.lt_succ_self _
      go_wp2
      exact bodyPost_ret (v := .agg #[.int .i64 2, .slice x0 emptyS.nc z0, .slice x1 emptyS.nl z1, .slice x2 emptyS.nw z2]) (by simp [results, Tryz.results21, go_sem, r0, r1, r2, r3]) rfl ⟨x0, z0, x1, z1, x2, z2, rfl, ⟨((((S4.out.1.1.far hlo _).far hlo _).far hlo _).far hlo _).mono (by omega), (((S4.out.1.2.far _ _).far _ _).far _ _).far _ _, S4.out.2⟩, (((HBW.out.setCell (Nat.le_succ _) _).setCell (Nat.le_succ _) _).setCell (Nat.le_succ _) _).setCell (Nat.le_succ _) _⟩
    · have dn : decide ((200 : Int) ≤ (S.nl : Int)) = false := decide_eq_false (by omega)
      clear q
      go_wp2_with fail
      refine (l3Bad_is 2 _).mono ?_
      rintro e w9 ⟨x0, z0, x1, z1, x2, z2, rfl, ⟨s4, f4, a4⟩, q4⟩
      have hsz : w.heap.size + 2 ≤ _ := HE.out.2.1.lt
      have S4 : Hid ((St w9 (w.heap.size + 2) emptyS (.slice x0 emptyS.nc z0) (.slice x1 emptyS.nl z1) (.slice x2 emptyS.nw z2) ∧ FreeS w9 emptyS (.slice x0 emptyS.nc z0) (.slice x1 emptyS.nl z1) (.slice x2 emptyS.nw z2)) ∧ ApartD emptyS (.slice x0 emptyS.nc z0) (.slice x1 emptyS.nl z1) (.slice x2 emptyS.nw z2)) := ⟨⟨s4.mono hsz, f4⟩, a4⟩
      have HBW : Hid (Below w.heap.size w w9) := (HE.out.later q4).1.2
      obtain ⟨⟨r0, r1, r2, r3⟩, f0, f1, f2, f3⟩ := (HE.out.later q4).2.1
      clear s4 f4 a4 q4 hsz
      have hlo : (w.heap.size + 1 : Nat) < w.heap.size + 2 := Nat.lt_succ_self _
      go_wp2
      exact bodyPost_ret (v := .agg #[.int .i64 2, .slice x0 emptyS.nc z0, .slice x1 emptyS.nl z1, .slice x2 emptyS.nw z2]) (by simp [results, Tryz.results21, go_sem, r0, r1, r2, r3]) rfl ⟨x0, z0, x1, z1, x2, z2, rfl, ⟨((((S4.out.1.1.far hlo _).far hlo _).far hlo _).far hlo _).mono (by omega), (((S4.out.1.2.far _ _).far _ _).far _ _).far _ _, S4.out.2⟩, (((HBW.out.setCell (Nat.le_succ _) _).setCell (Nat.le_succ _) _).setCell (Nat.le_succ _) _).setCell (Nat.le_succ _) _⟩
end
end Go.Proofs.YtkbjlnnincknaaaGreatDoor
