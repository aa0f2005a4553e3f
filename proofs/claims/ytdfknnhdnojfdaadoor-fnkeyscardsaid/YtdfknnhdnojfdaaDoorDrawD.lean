/-
  Own text. spec.DrawParseKey draws a text: it returns, and turns nothing that was there.
-/
import Derived.Test.YtdfknnhdnojfdaaDoorDrawC
import Derived.Test.YtdfknnhdnojfdaaDoorKeysF
namespace Go.Proofs.YtdfknnhdnojfdaaDoor
open Go.RowKit

theorem text_size {k : Int} (h : faultOf k = 0) : 1 ≤ (textOf k).size ∧ (textOf k).size ≤ 4 := by
  rcases fault_zero h with rfl | ⟨h1, h2⟩ | ⟨h1, h2⟩ | ⟨h1, h2, _⟩
  · rw [textOf_0]; exact ⟨by decide, by decide⟩
  · rw [textOf_1 h1 h2]; exact ⟨by show 1 ≤ 2; omega, by show 2 ≤ 4; omega⟩
  · rw [textOf_3 h1]; exact ⟨by show 1 ≤ 2; omega, by show 2 ≤ 4; omega⟩
  · rw [textOf_2 h1 h2]; exact ⟨by show 1 ≤ 4; omega, by show 4 ≤ 4; omega⟩
/-- A new row of bytes out of a text. -/
theorem bytes_made (w : World) (s : ByteArray) : ∃ (cp : Nat) (C : Array Value), s.size ≤ cp ∧ C.size = cp ∧ (∀ j, j < s.size → ∃ n : Int, C[j]? = some (.int .u8 n))
    ∧ (convert 9 22 (.string s)).run Tryd.prog w = .ok (.slice (some ⟨w.heap.size, 0, none⟩) s.size cp) (w.drew.alloc (.cells C 5 (C.size, C.size + 1))) := by
  refine ⟨_, _, grownCap_ge w s.size 0 5, ?_, ?_, run_bytes_of_string w 9 22 5 s Tryd.underlying9 Tryd.underlying22 Tryd.underlying5⟩
  · have := grownCap_ge w s.size 0 5
    simp [bytesRow]
    show s.size + _ = _
    omega
  · intro j hj
    have hj' : j < s.data.size := hj
    refine ⟨(s[j].toNat : Int), ?_⟩
    unfold bytesRow
    rw [Array.getElem?_append_left (by simpa using hj')]
    simp
    exact ⟨s[j], Array.getElem?_eq_getElem (xs := s.data) hj', rfl⟩

/-- A row of bytes at the head of block g: n of them, room for cp. -/
structure BRow (w : World) (g n cp : Nat) : Prop where
  at' : ∀ j, j < n → ∃ m : Int, w.cell? ⟨g, j, none⟩ = some (.int .u8 m)
  room : ∀ j, j < cp → (∃ u, w.cell? ⟨g, j, none⟩ = some u) ∧ w.frozen? ⟨g, j, none⟩ = false
  le : n ≤ cp
  lt : g < w.heap.size
theorem BRow.but {b : Nat} {w w' : World} {g n cp : Nat} (h : BRow w g n cp) (k : But b w w') (hg : g ≠ b) : BRow w' g n cp where
  at' := fun j hj => by obtain ⟨m, e⟩ := h.at' j hj; exact ⟨m, k.cell e hg⟩
  room := fun j hj => by
    obtain ⟨⟨u, e⟩, f⟩ := h.room j hj
    exact ⟨⟨u, k.cell e hg⟩, (k.frozen h.lt hg).trans f⟩
  le := h.le
  lt := Nat.lt_of_lt_of_le h.lt k.size
theorem BRow.alloc {w : World} {g n cp : Nat} (h : BRow w g n cp) (x : Obj) : BRow (w.alloc x) g n cp where
  at' := fun j hj => by obtain ⟨m, e⟩ := h.at' j hj; exact ⟨m, (World.cell?_alloc_lt _ _ _ h.lt).trans e⟩
  room := fun j hj => by
    obtain ⟨⟨u, e⟩, f⟩ := h.room j hj
    exact ⟨⟨u, (World.cell?_alloc_lt _ _ _ h.lt).trans e⟩, (World.frozen?_alloc_old _ _ _ (Nat.ne_of_lt h.lt)).trans f⟩
  le := h.le
  lt := by have := h.lt; simp; omega
theorem BRow.made {w : World} {C : Array Value} {n cp : Nat} (hn : n ≤ cp) (hC : C.size = cp) (hc : ∀ j, j < n → ∃ m : Int, C[j]? = some (.int .u8 m)) : BRow (w.alloc (.cells C 5 (cp, cp + 1))).drew w.heap.size n cp where
  at' := fun j hj => by obtain ⟨m, e⟩ := hc j hj; exact ⟨m, (World.cell?_alloc_mark w C _ _ j).trans e⟩
  room := fun j hj => by
    refine ⟨⟨C[j]'(by omega), (World.cell?_alloc_mark w C _ _ j).trans (Array.getElem?_eq_getElem (by omega))⟩, ?_⟩
    have : (w.alloc (.cells C 5 (cp, cp + 1))).heap[w.heap.size]? = some (.cells C 5 (cp, cp + 1)) := by show (w.heap.push _)[w.heap.size]? = _; simp
    show (w.alloc (.cells C 5 (cp, cp + 1))).frozen? ⟨w.heap.size, j, none⟩ = false
    unfold World.frozen?
    rw [this]
    simp
    omega
  le := hn
  lt := by show w.heap.size < (w.heap.push _).size; simp
theorem BRow.set {w : World} {g n cp : Nat} (h : BRow w g n cp) (i : Nat) (x : Int) : BRow (w.setCell ⟨g, i, none⟩ (.int .u8 x)) g n cp where
  at' := fun j hj => by
    obtain ⟨m, e⟩ := h.at' j hj
    by_cases hji : j = i
    · subst hji; exact ⟨x, World.cell?_setCell_same _ _ _ e⟩
    · exact ⟨m, (World.cell?_setCell_other _ _ _ _ (fun q => hji (by simpa using (congrArg Addr.off q).symm))).trans e⟩
  room := fun j hj => by
    obtain ⟨⟨u, e⟩, f⟩ := h.room j hj
    refine ⟨?_, (World.frozen?_setCell _ _ _ _).trans f⟩
    by_cases hji : j = i
    · subst hji; exact ⟨_, World.cell?_setCell_same _ _ _ e⟩
    · exact ⟨u, (World.cell?_setCell_other _ _ _ _ (fun q => hji (by simpa using (congrArg Addr.off q).symm))).trans e⟩
  le := h.le
  lt := by have := h.lt; simpa [World.setCell] using this
theorem pick_list {n : Nat} {f : Nat → Option Value} (h : ∀ j, j < n → ∃ m : Int, f j = some (.int .u8 m)) : ∃ ns : List Int, ns.length = n ∧ ∀ j, j < n → f j = (ns.map (Value.int .u8))[j]? := by
  induction n with
  | zero => exact ⟨[], rfl, fun j hj => absurd hj (Nat.not_lt_zero j)⟩
  | succ n ih =>
    obtain ⟨ns, hl, hns⟩ := ih (fun j hj => h j (by omega))
    obtain ⟨m, hm⟩ := h n (by omega)
    refine ⟨ns ++ [m], by simp [hl], fun j hj => ?_⟩
    by_cases hjn : j = n
    · subst hjn; rw [hm]; simp [← hl]
    · rw [hns j (by omega), List.map_append, List.getElem?_append_left (by simp; omega)]
/-- Bytes make a text. -/
theorem bytes_text {w : World} {g n : Nat} (h : ∀ j, j < n → ∃ m : Int, w.cell? ⟨g, j, none⟩ = some (.int .u8 m)) (cp : Nat) : ∃ s : ByteArray, (convert 22 9 (.slice (some ⟨g, 0, none⟩) n cp)).run Tryd.prog w = .ok (.string s) w := by
  obtain ⟨ns, hl, hns⟩ := pick_list (f := fun j => w.cell? ⟨g, j, none⟩) h
  refine ⟨ns.foldl (fun r n => r.push (UInt8.ofNat n.toNat)) ByteArray.empty, ?_⟩
  rw [run_convert_bytes_string _ 22 9 5 _ n cp Tryd.underlying22 Tryd.underlying5 Tryd.underlying9]
  have hld := run_loadCells_list (P := Tryd.prog) w ⟨g, 0, none⟩ (ns.map (Value.int .u8)) (fun j v hj => by
    have hjn : j < n := by
      have := (List.getElem?_eq_some_iff.1 hj).1
      simpa [hl] using this
    have := hns j hjn
    rw [hj] at this
    rw [Addr.add_lit, Nat.zero_add]; exact this)
  simp only [List.length_map, hl] at hld
  rw [run_bytesToString w ⟨g, 0, none⟩ n cp ns hld]
theorem BRow.text {w : World} {g n cp : Nat} (h : BRow w g n cp) : ∃ s : ByteArray, (convert 22 9 (.slice (some ⟨g, 0, none⟩) n cp)).run Tryd.prog w = .ok (.string s) w := bytes_text h.at' cp

theorem info_u8 : (Tryd.prog.info? 5).map (fun i => (i.zero, i.size, i.bytes)) = some (some (.int .u8 0), 1, 1) := by kernel_rfl
/-- An append whose run is known. -/
theorem wpList_append_run {P : Program} (w : World) {ops : Array Oper} {rest : List Oper} {o : Oper} {a : Act} {Q : Exit → Act → World → Prop} (hgd : o.guard = none) (s x : Operand) (t : TypeId)
    (ho : o.op = .call { callee := .builtin .append, args := #[s, x], argTypes := #[t, t] }) (v u : Value) (hs : a.eval s = v) (hx : a.eval x = u) (v' : Value) (w' : World)
    (hr : ∀ ty, (Builtin.append_ #[t, t] ty #[v, u]).run P w = .ok v' w') (h : wpList P ops Q rest (a.put o.dst v') w') : wpList P ops Q (o :: rest) a w :=
  wpList_plain hgd fun _ hK => by
    unfold Oper.wp execOp
    simp only [ho, resolve, invoke, builtin, Sem.run_bind, Sem.run_pure, Result.andThen_ok, List.map_toArray, List.map_cons, List.map_nil, hs, hx, hr]
    exact hK _ _ h
theorem append_grown (w : World) (g n : Nat) (z1 : 1 ≤ n) (z4 : n ≤ 4) (h : BRow w g n n) : ∃ (cp' : Nat) (C' : Array Value),
    (∃ s : ByteArray, (convert 22 9 (.slice (some ⟨w.heap.size + 1, 0, none⟩) (n + 1) cp')).run Tryd.prog ((w.alloc (.cells #[.int .u8 48] 5)).alloc (.cells C' 5)).drew = .ok (.string s) ((w.alloc (.cells #[.int .u8 48] 5)).alloc (.cells C' 5)).drew)
    ∧ ∀ ty, (Builtin.append_ #[22, 22] ty #[.slice (some ⟨g, 0, none⟩) n n, .slice (some ⟨w.heap.size, 0, none⟩) 1 1]).run Tryd.prog (w.alloc (.cells #[.int .u8 48] 5)) = .ok (.slice (some ⟨w.heap.size + 1, 0, none⟩) (n + 1) cp') ((w.alloc (.cells #[.int .u8 48] 5)).alloc (.cells C' 5)).drew := by
  obtain ⟨ns, hl, hns⟩ := pick_list (f := fun j => w.cell? ⟨g, j, none⟩) h.at'
  obtain ⟨i0, hi, hz0, hz1, hz2⟩ := info_parts info_u8
  have hcap : Builtin.nextslicecap (n + 1) n ≤ 8 := by have := nextslicecap_succ (old := n) (by omega); omega
  obtain ⟨cp', C', hget, hgr⟩ : ∃ (cp' : Nat) (C' : Array Value), (∀ j, j < n + 1 → ∃ m : Int, C'[j]? = some (.int .u8 m)) ∧ ∀ ty, (Builtin.append_ #[22, 22] ty #[.slice (some ⟨g, 0, none⟩) n n, .slice (some ⟨w.heap.size, 0, none⟩) 1 1]).run Tryd.prog (w.alloc (.cells #[.int .u8 48] 5)) = .ok (.slice (some ⟨w.heap.size + 1, 0, none⟩) (n + 1) cp') ((w.alloc (.cells #[.int .u8 48] 5)).drew.alloc (.cells C' 5)) := by
    have hgr := fun ty => run_append_grow (P := Tryd.prog) (w.alloc (.cells #[.int .u8 48] 5)) 22 ty 5 i0 (.int .u8 0) Tryd.underlying22 hi hz0 ⟨g, 0, none⟩ n n (ns.map (Value.int .u8)) (by simp [hl, hz1]) (fun j v hj => by
      have hjn : j < n := by
        have := (List.getElem?_eq_some_iff.1 hj).1
        simpa [hl] using this
      have := hns j hjn
      rw [hj] at this
      rw [Addr.add_lit, Nat.zero_add, World.cell?_alloc_lt _ _ _ h.lt]; exact this) ⟨w.heap.size, 0, none⟩ 1 1 [.int .u8 48] (by simp [hz1]) (fun j v hj => by
      have hj0 : j = 0 := by
        have := (List.getElem?_eq_some_iff.1 hj).1
        simpa using this
      subst hj0
      have hx : Value.int .u8 48 = v := by simpa using hj
      subst hx
      exact World.cell?_alloc_mark w _ _ _ 0) (by omega) (by omega) (by rw [hz2]; omega)
    simp only [World.size_alloc] at hgr
    refine ⟨_, _, ?_, hgr⟩
    · intro j hj
      rw [Array.getElem?_append_left (by simp [hl]; omega)]
      by_cases hjn : j = n
      · subst hjn
        exact ⟨48, by simp [← hl]⟩
      · have hjl : j < ns.length := by omega
        exact ⟨ns[j], by rw [Array.getElem?_append_left (by simp; omega)]; simp [hjl]⟩
  refine ⟨cp', C', ?_, hgr⟩
  refine bytes_text (fun j hj => ?_) cp'
  obtain ⟨m, e⟩ := hget j hj
  refine ⟨m, ?_⟩
  have e2 := World.cell?_alloc_mark (w.alloc (.cells #[.int .u8 48] 5)) C' 5 (0, 0) j
  rw [World.size_alloc] at e2
  exact e2.trans e
set_option maxHeartbeats 1000000 in
theorem drawParseKey_any (w : World) (o : Option Addr) (len cap : Nat) (h : Code w o len) (hl : len ≤ 1048576) :
    Calls Tryd.prog 5 #[.slice o len cap] w fun e w' => ∃ s : ByteArray, e = .returned (.string s) ∧ Below w.heap.size w w' := by
  have H : Hid (Code w o len) := h
  clear h
  go_enter Tryd.func5, Tryd.ntmps5
  go_wp2_with fail
  refine (l1Source_any _ o len cap H.out).mono ?_
  rintro e w1 ⟨rfl, hS, hb, hz⟩
  have H1 : Hid (Src w1 w.heap.size o len cap 0 ∧ Below w.heap.size w w1 ∧ w1.heap.size = w.heap.size + 1) := ⟨hS, hb, hz⟩
  clear hS hb hz
  go_wp2_with fail
  refine (l1Key_any _ w.heap.size o len cap 0 H1.out.1 (by omega) hl).mono ?_
  rintro e w2 ⟨k, rfl, hk, hS, hT⟩
  have H2 : Hid (Src w2 w.heap.size o len cap (0 + 5) ∧ But w.heap.size w1 w2) := ⟨hS, hT⟩
  have HT : Hid (∀ w, Calls Tryd.prog 19 #[.int .i64 k] w fun e w' => e = .returned (.string (textOf k)) ∧ Below w.heap.size w w') := fun w => l1Text_any k w hk
  obtain ⟨z1, z4⟩ := text_size hk
  clear hS hT hk
  generalize textOf k = tx at *
  go_wp2_with fail
  refine (HT.out _).mono ?_
  rintro e w3 ⟨rfl, hb⟩
  have H3 : Hid (Src w3 w.heap.size o len cap 5 ∧ But w.heap.size w1 w3) := ⟨H2.out.1.later hb, H2.out.2.below hb⟩
  clear hb H2 HT
  obtain ⟨cp, C, hcp, hC, hcells, hconv⟩ := bytes_made w3 tx
  have HC : Hid (∀ j, j < tx.size → ∃ n : Int, C[j]? = some (.int .u8 n)) := hcells
  clear hcells
  go_wp2_with fail
  have F4 : Hid (Src (w3.alloc (.cells C 5 (cp, cp + 1))).drew w.heap.size o len cap 5 ∧ But w.heap.size w1 (w3.alloc (.cells C 5 (cp, cp + 1))).drew ∧ BRow (w3.alloc (.cells C 5 (cp, cp + 1))).drew w3.heap.size tx.size cp) :=
    ⟨H3.out.1.later (((Below.refl _ _).alloc (Nat.le_refl _) _).drew), H3.out.2.below (((Below.refl _ _).alloc (Nat.le_refl _) _).drew), BRow.made hcp hC HC.out⟩
  have zb : w.heap.size < w3.heap.size := H3.out.1.lt
  clear hconv HC hC
  generalize (w3.alloc (.cells C 5 (cp, cp + 1))).drew = W4 at *
  refine (l1Next_any _ w.heap.size o len cap 5 5 F4.out.1 (by omega) hl).mono ?_
  rintro e w5 ⟨r, rfl, r0, _, hS, hT⟩
  have F5 : Hid (Src w5 w.heap.size o len cap (5 + 1) ∧ But w.heap.size w1 w5 ∧ BRow w5 w3.heap.size tx.size cp) := ⟨hS, F4.out.2.1.trans hT, F4.out.2.2.but hT (by omega)⟩
  clear hS hT F4
  generalize w3.heap.size = g at *
  generalize tx.size = n at *
  have zg : g < w5.heap.size := F5.out.2.2.lt
  have hle : n ≤ cp := F5.out.2.2.le
  by_cases hr0 : r = 0
  · subst hr0
    go_wp2_with fail
    refine (l1Next_any _ w.heap.size o len cap (5 + 1) n F5.out.1 (by omega) hl).mono ?_
    rintro e w6 ⟨i, rfl, i0, i1, hS, hT⟩
    have i2 : i < n := i1 (by omega)
    have F6 : Hid (Src w6 w.heap.size o len cap (5 + 1 + 1) ∧ But w.heap.size w1 w6 ∧ BRow w6 g n cp) := ⟨hS, F5.out.2.1.trans hT, F5.out.2.2.but hT (by omega)⟩
    clear hS hT F5 i1
    go_wp2_with fail
    have hI : Ints (w6.alloc (.cells #[.int .i64 55, .int .i64 46, .int .i64 120] 2)) w6.heap.size (.slice (some ⟨w6.heap.size, 0, none⟩) 3 3) [55, 46, 120] := World.ownsRow_lit w6 #[.int .i64 55, .int .i64 46, .int .i64 120] 3 (Nat.le_refl _) (by decide) rfl
    refine (l1Pick_any _ w.heap.size o len cap (5 + 1 + 1) _ w6.heap.size [55, 46, 120] (F6.out.1.alloc _) (by omega) hl hI F6.out.1.lt (by simp) (by simp)).mono ?_
    rintro e w7 ⟨x, rfl, hx, _, hT⟩
    simp only [List.mem_cons, List.not_mem_nil, or_false] at hx
    have x0 : 0 ≤ x := by omega
    have x1 : x < 256 := by omega
    have F7 : Hid (But w.heap.size w1 w7 ∧ BRow w7 g n cp) := ⟨(F6.out.2.1.alloc _).trans hT, (F6.out.2.2.alloc _).but hT (by omega)⟩
    clear hx hT hI F6
    obtain ⟨m, rfl⟩ := Int.eq_ofNat_of_zero_le i0
    obtain ⟨⟨u, hu⟩, hf⟩ := F7.out.2.room m (by omega)
    have F8 : Hid (Below w.heap.size w (w7.setCell ⟨g, m, none⟩ (.int .u8 x))) := (Below.but H1.out.2.1 F7.out.1 (by have := H1.out.2.2; omega) (Nat.le_refl _)).setCell (by show w.heap.size ≤ g; omega) _
    obtain ⟨s, hs⟩ := (F7.out.2.set m x).text
    clear F7
    go_wp2
    go_ret
    exact ⟨_, rfl, F8.out⟩
  by_cases hr1 : r = 1
  · subst hr1
    by_cases hroom : n + 1 ≤ cp
    · obtain ⟨⟨u, hu⟩, hf⟩ := F5.out.2.2.room n (by omega)
      have B8 : BRow (w5.setCell ⟨g, n, none⟩ (.int .u8 48)) g (n + 1) cp :=
        { at' := fun j hj => by
            by_cases e : j = n
            · subst e; exact ⟨48, World.cell?_setCell_same _ _ _ hu⟩
            · exact (F5.out.2.2.set n 48).at' j (by omega)
          room := (F5.out.2.2.set n 48).room
          le := hroom
          lt := (F5.out.2.2.set n 48).lt }
      obtain ⟨s, hs⟩ := (B8.alloc (.cells #[.int .u8 48] 5)).text
      have F8 : Hid (Below w.heap.size w ((w5.setCell ⟨g, n, none⟩ (.int .u8 48)).alloc (.cells #[.int .u8 48] 5))) := ((Below.but H1.out.2.1 F5.out.2.1 (by have := H1.out.2.2; omega) (Nat.le_refl _)).setCell (by show w.heap.size ≤ g; omega) _).alloc (by have := B8.lt; omega) _
      clear B8 F5
      go_wp2
      go_ret
      exact ⟨_, rfl, F8.out⟩
    · obtain rfl : cp = n := by omega
      obtain ⟨cp', C', hC', hgr⟩ := append_grown w5 g cp z1 z4 F5.out.2.2
      have F8 : Hid (Below w.heap.size w ((w5.alloc (.cells #[.int .u8 48] 5)).alloc (.cells C' 5)).drew) := (((Below.but H1.out.2.1 F5.out.2.1 (by have := H1.out.2.2; omega) (Nat.le_refl _)).alloc (by omega) _).alloc (by simp; omega) _).drew
      obtain ⟨s, hs⟩ := hC'
      clear F5
      go_wp2_with (at_builtin; refine wpList_append_run _ rfl _ _ 22 rfl _ _ rfl rfl _ _ hgr ?_)
      go_wp2
      go_ret
      exact ⟨_, rfl, F8.out⟩
  · have d0 : (r == 0) = false := beq_eq_false_iff_ne.2 hr0
    have d1 : (r == 1) = false := beq_eq_false_iff_ne.2 hr1
    obtain ⟨s, hs⟩ := F5.out.2.2.text
    go_wp2
    go_ret
    exact ⟨_, rfl, Below.but H1.out.2.1 F5.out.2.1 (by have := H1.out.2.2; omega) (Nat.le_refl _)⟩
end Go.Proofs.YtdfknnhdnojfdaaDoor
