/-
  Own text, merged of ColL, ColW.
-/
import Derived.Test.YtdodahmimppdoaaPk10
namespace Go.Proofs.Ytdodahmimppdoaa
open Go.RowKit

theorem implCellAt_ans (S : Sto) (v0 v1 v2 : Value) (key start c v : Int) (B : Nat) (w : World) (h : St w B S v0 v1 v2) (hst : askF S key = 0 → Wf start) (hA : cellAtC S key start = c ∧ cellAtV S key start = v) :
    Calls Try.prog 8 #[.agg #[v0, v1, v2], .int .i64 key, .int .i64 start] w (ResInt w c v) := by
  obtain ⟨rfl, rfl⟩ := hA
  exact implCellAt_any S v0 v1 v2 key start B w h hst
theorem specCellAt_ans (S : Sto) (v0 v1 v2 : Value) (key start c v : Int) (B : Nat) (w : World) (h : St w B S v0 v1 v2) (hA : cellAtC S key start = c ∧ cellAtV S key start = v) :
    Calls Try.prog 13 #[.agg #[v0, v1, v2], .int .i64 key, .int .i64 start] w (ResInt w c v) := by
  obtain ⟨rfl, rfl⟩ := hA
  exact specCellAt_any S v0 v1 v2 key start B w h
theorem cntW_pos {k : Nat → Int} {key : Int} : ∀ {n i : Nat}, i < n → k (i * 4) = key → 1 ≤ cntW k key n
  | 0, i, h, _ => absurd h (Nat.not_lt_zero i)
  | n + 1, i, h, e => by
    rcases Nat.lt_or_ge i n with q | q
    · have := cntW_pos q e
      rw [cntW]; omega
    · obtain rfl : i = n := by omega
      rw [cntW_yes e]; omega
theorem lastW.self {k : Nat → Int} {n : Nat} {key ts : Int} {i : Nat} (h : lastW k n key ts i) : lastW k n key (k (i * 4 + 1)) i :=
  ⟨h.1, ⟨h.2.1.1, Int.le_refl _, h.2.1.2.2⟩, fun j h1 h2 q => h.2.2 j h1 h2 ⟨q.1, Int.le_trans q.2.1 h.2.1.2.1, q.2.2⟩⟩
theorem neqWrite (x0 x1 x2 x3 : Int) (w : World) : (binOp .neq 42 (.agg #[.int .i64 x0, .int .i64 x1, .int .i64 x2, .int .i64 x3]) (.agg #[.int .i64 x0, .int .i64 x1, .int .i64 x2, .int .i64 x3])).run Try.prog w = .ok (.bool false) w := by
  have hS : Try.prog.underlying 42 = some (.struct (Try.prog.fieldsOf 42)) := by kernel_rfl
  have hp : Try.prog.stoodInHeld 42 = false := by kernel_rfl
  have u2 := Try.underlying2
  have a2 := Try.isAgg2
  have z2 := Try.sizeOf2
  rw [run_neq_struct, show (10000 : Nat) = 9999 + 1 from rfl, run_equalIn_agg w 9999 _ _ _ hS hp]
  simp only [Program.fieldsOf, Try.underlying42]
  go_simp
  try simp
theorem field_wr0 (c : Int) (o : Option Addr) (n k : Nat) (w : World) : (Instr.field 32 (.agg #[.int .i64 c, .slice o n k]) 0).run Try.prog w = .ok (.int .i64 c) w := by kernel_rfl
theorem field_wr1 (c : Int) (o : Option Addr) (n k : Nat) (w : World) : (Instr.field 32 (.agg #[.int .i64 c, .slice o n k]) 1).run Try.prog w = .ok (.slice o n k) w := by kernel_rfl
theorem field_lr0 (c : Int) (o : Option Addr) (n k : Nat) (w : World) : (Instr.field 38 (.agg #[.int .i64 c, .slice o n k]) 0).run Try.prog w = .ok (.int .i64 c) w := by kernel_rfl
theorem field_ir0 (x y : Int) (w : World) : (Instr.field 35 (.agg #[.int .i64 x, .int .i64 y]) 0).run Try.prog w = .ok (.int .i64 x) w := by kernel_rfl
theorem field_ir1 (x y : Int) (w : World) : (Instr.field 35 (.agg #[.int .i64 x, .int .i64 y]) 1).run Try.prog w = .ok (.int .i64 y) w := by kernel_rfl
/-- What stands while the law looks: the store that was drawn in its box, and the five answers in theirs. -/
structure EnvF (w : World) (b0 b6 b7 b8 b9 b10 : Nat) (S : Sto) (v0 v1 v2 : Value) (c6 : Int) (n6 : Nat) (F6 : Nat → Int) (v6 : Value) (c7 : Int) (n7 : Nat) (F7 : Nat → Int) (v7 : Value) (c8 d8 : Int) (c9 : Int) (n9 : Nat) (F9 : Nat → Int) (v9 : Value) (c10 d10 : Int) (x : World) : Prop where
  below : Below w.heap.size w x
  box : Blk3 x b0 v0 v1 v2
  st : St x 0 S v0 v1 v2
  k6 : Blk2 x b6 (.int .i64 c6) v6
  r6 : Row x 0 4 n6 F6 v6
  k7 : Blk2 x b7 (.int .i64 c7) v7
  r7 : Row x 0 4 n7 F7 v7
  k8 : Blk2 x b8 (.int .i64 c8) (.int .i64 d8)
  k9 : Blk2 x b9 (.int .i64 c9) v9
  r9 : Row x 0 5 n9 F9 v9
  k10 : Blk2 x b10 (.int .i64 c10) (.int .i64 d10)
theorem EnvF.later {w : World} {b0 b6 b7 b8 b9 b10 : Nat} {S : Sto} {v0 v1 v2 : Value} {c6 : Int} {n6 : Nat} {F6 : Nat → Int} {v6 : Value} {c7 : Int} {n7 : Nat} {F7 : Nat → Int} {v7 : Value} {c8 d8 : Int} {c9 : Int} {n9 : Nat} {F9 : Nat → Int} {v9 : Value} {c10 d10 : Int} {x x' : World} (h : EnvF w b0 b6 b7 b8 b9 b10 S v0 v1 v2 c6 n6 F6 v6 c7 n7 F7 v7 c8 d8 c9 n9 F9 v9 c10 d10 x) (hb : Below x.heap.size x x') : EnvF w b0 b6 b7 b8 b9 b10 S v0 v1 v2 c6 n6 F6 v6 c7 n7 F7 v7 c8 d8 c9 n9 F9 v9 c10 d10 x' :=
  ⟨h.below.trans (hb.mono h.below.size), h.box.later hb, h.st.later hb, h.k6.later hb, h.r6.later hb, h.k7.later hb, h.r7.later hb, h.k8.later hb, h.k9.later hb, h.r9.later hb, h.k10.later hb⟩
/-- A cell, in a block that is there. -/
def Cel (x : World) (g o : Nat) (v : Value) : Prop := x.cell? ⟨g, o, none⟩ = some v ∧ g < x.heap.size
theorem Cel.later {x x' : World} {g o : Nat} {v : Value} (h : Cel x g o v) (hb : Below x.heap.size x x') : Cel x' g o v := ⟨(hb.cell (p := ⟨g, o, none⟩) h.2).trans h.1, Nat.lt_of_lt_of_le h.2 hb.size⟩
/-- What the law's draw answers. -/
def DrawnC (w : World) (e : Ending) (w' : World) : Prop := ∃ (S : Sto) (a0 : Option Addr) (c0 : Nat) (a1 : Option Addr) (c1 : Nat) (a2 : Option Addr) (c2 : Nat) (key ts : Int), e = .returned (.tuple #[.agg #[.slice a0 S.nc c0, .slice a1 S.nl c1, .slice a2 S.nw c2], .int .i64 key, .int .i64 ts]) ∧ St w' 0 S (.slice a0 S.nc c0) (.slice a1 S.nl c1) (.slice a2 S.nw c2) ∧ Below w.heap.size w w' ∧ (storeF S = 0 → Wf ts)
theorem lwBigC_is (o : Option Addr) (len cap : Nat) (r : Bool) (w : World) (h : decide ((1048576 : Int) < (len : Int)) = r) :
    Calls Try.prog 4 #[.slice o len cap] w fun e w' => e = .returned (.bool r) ∧ w' = w := by
  go_enter Try.func4, Try.ntmps4
  go_wp2
  go_ret
  exact ⟨by first | rfl | (rw [← h]; rfl), rfl⟩
theorem EnvF.cells {w : World} {b0 b6 b7 b8 b9 b10 : Nat} {S : Sto} {v0 v1 v2 : Value} {c6 : Int} {n6 : Nat} {F6 : Nat → Int} {v6 : Value} {c7 : Int} {n7 : Nat} {F7 : Nat → Int} {v7 : Value} {c8 d8 : Int} {c9 : Int} {n9 : Nat} {F9 : Nat → Int} {v9 : Value} {c10 d10 : Int} {x : World} (h : EnvF w b0 b6 b7 b8 b9 b10 S v0 v1 v2 c6 n6 F6 v6 c7 n7 F7 v7 c8 d8 c9 n9 F9 v9 c10 d10 x) :
    x.cell? ⟨b0, 0, none⟩ = some v0 ∧ x.cell? ⟨b0, 1, none⟩ = some v1 ∧ x.cell? ⟨b0, 2, none⟩ = some v2 ∧ x.cell? ⟨b6, 0, none⟩ = some (.int .i64 c6) ∧ x.cell? ⟨b6, 1, none⟩ = some v6 ∧ x.cell? ⟨b7, 0, none⟩ = some (.int .i64 c7) ∧ x.cell? ⟨b7, 1, none⟩ = some v7 ∧ x.cell? ⟨b8, 0, none⟩ = some (.int .i64 c8) ∧ x.cell? ⟨b8, 1, none⟩ = some (.int .i64 d8) ∧ x.cell? ⟨b9, 0, none⟩ = some (.int .i64 c9) ∧ x.cell? ⟨b9, 1, none⟩ = some v9 ∧ x.cell? ⟨b10, 0, none⟩ = some (.int .i64 c10) ∧ x.cell? ⟨b10, 1, none⟩ = some (.int .i64 d10) :=
  ⟨h.box.1.1, h.box.1.2.1, h.box.1.2.2, h.k6.1.1, h.k6.1.2, h.k7.1.1, h.k7.1.2, h.k8.1.1, h.k8.1.2, h.k9.1.1, h.k9.1.2, h.k10.1.1, h.k10.1.2⟩
theorem cel15 {w : World} {b0 b6 b7 b8 b9 b10 : Nat} {S : Sto} {v0 v1 v2 : Value} {c6 : Int} {n6 : Nat} {F6 : Nat → Int} {v6 : Value} {c7 : Int} {n7 : Nat} {F7 : Nat → Int} {v7 : Value} {c8 d8 : Int} {c9 : Int} {n9 : Nat} {F9 : Nat → Int} {v9 : Value} {c10 d10 : Int} {x : World} {g1 o1 g2 o2 g3 o3 : Nat} {u1 u2 u3 : Value} (h : EnvF w b0 b6 b7 b8 b9 b10 S v0 v1 v2 c6 n6 F6 v6 c7 n7 F7 v7 c8 d8 c9 n9 F9 v9 c10 d10 x ∧ Cel x g1 o1 u1 ∧ Cel x g2 o2 u2 ∧ Cel x g3 o3 u3) :
    x.cell? ⟨b0, 0, none⟩ = some v0 ∧ x.cell? ⟨b0, 1, none⟩ = some v1 ∧ x.cell? ⟨b0, 2, none⟩ = some v2 ∧ x.cell? ⟨b7, 0, none⟩ = some (.int .i64 c7) ∧ x.cell? ⟨b7, 1, none⟩ = some v7 ∧ x.cell? ⟨b8, 1, none⟩ = some (.int .i64 d8) ∧ x.cell? ⟨b9, 0, none⟩ = some (.int .i64 c9) ∧ x.cell? ⟨b9, 1, none⟩ = some v9 ∧ x.cell? ⟨b10, 1, none⟩ = some (.int .i64 d10) ∧ x.cell? ⟨g1, o1, none⟩ = some u1 ∧ x.cell? ⟨g2, o2, none⟩ = some u2 ∧ x.cell? ⟨g3, o3, none⟩ = some u3 :=
  ⟨h.1.box.1.1, h.1.box.1.2.1, h.1.box.1.2.2, h.1.k7.1.1, h.1.k7.1.2, h.1.k8.1.2, h.1.k9.1.1, h.1.k9.1.2, h.1.k10.1.2, h.2.1.1, h.2.2.1.1, h.2.2.2.1⟩
theorem hid_mkC {p : Prop} (h : p) : Hid p := h
set_option maxRecDepth 100000 in
set_option maxHeartbeats 16000000 in
theorem fnColumns_over (o : Option Addr) (len cap : Nat) (w : World) (hl0 : len ≤ maxLen) (hd : len ≤ 1048576 → Calls Try.prog 5 #[.slice o len cap] w (DrawnC w)) :
    Calls Try.prog 3 #[.slice o len cap] w fun e w' => e = .returned (.bool true) ∧ Below w.heap.size w w' := by
  have hml : maxLen = 9223372036854775807 := rfl
  by_cases hbig : (1048576 : Int) < len
  · have d : decide ((1048576 : Int) < (len : Int)) = true := decide_eq_true hbig
    go_enter Try.func3, Try.ntmps3
    go_wp2_with fail
    refine (lwBigC_is _ _ _ _ _ d).mono ?_
    rintro e w9 ⟨rfl, hw9⟩
    obtain rfl := hw9.symm
    go_wp2
    go_ret
    exact ⟨rfl, Below.refl _ _⟩
  have d : decide ((1048576 : Int) < (len : Int)) = false := decide_eq_false hbig
  have HD : Hid (Calls Try.prog 5 #[.slice o len cap] w (DrawnC w)) := hd (by omega)
  clear hd hbig hml hl0
  go_enter Try.func3, Try.ntmps3
  go_wp2_with fail
  refine (lwBigC_is _ _ _ _ _ d).mono ?_
  rintro e w9 ⟨rfl, hw9⟩
  obtain rfl := hw9.symm
  clear hw9
  go_wp2_with fail
  refine HD.out.mono ?_
  rintro e y0 ⟨S, a0, c0, a1, c1, a2, c2, key, ts, rfl, hst, q1, hwf⟩
  have HW : Hid (askF S key = 0 → Wf ts) := fun h => hwf (askF_zero h).1
  have HB : Hid (Below w.heap.size w y0 ∧ St y0 0 S (.slice a0 S.nc c0) (.slice a1 S.nl c1) (.slice a2 S.nw c2)) := ⟨q1, hst⟩
  clear hst q1 hwf HD d
  obtain ⟨c6, n6, F6, _, hA6⟩ := LastWriteAns.get S key ts
  have A6 : Hid (LastWriteAns S key ts c6 n6 F6) := hA6
  obtain ⟨c7, n7, F7, _, hA7⟩ := WriteOfAns.get S key ts
  have A7 : Hid (WriteOfAns S key ts c7 n7 F7) := hA7
  obtain ⟨c9, n9, F9, _, hA9⟩ := LockAns.get S key
  have A9 : Hid (LockAns S key c9 n9 F9) := hA9
  obtain ⟨c10, d10, hA10⟩ := CntAns.get S key
  have A10 : Hid (CntAns S key c10 d10) := hA10
  obtain ⟨c8, d8, hA8⟩ : ∃ c d, cellAtC S key ts = c ∧ cellAtV S key ts = d := ⟨_, _, rfl, rfl⟩
  have A8 : Hid (cellAtC S key ts = c8 ∧ cellAtV S key ts = d8) := hA8
  clear hA6 hA7 hA8 hA9 hA10
  have K0 : Hid (Blk3 (y0.alloc (.cells #[.slice a0 S.nc c0, .slice a1 S.nl c1, .slice a2 S.nw c2] 28)) y0.heap.size (.slice a0 S.nc c0) (.slice a1 S.nl c1) (.slice a2 S.nw c2)) := Blk3.new y0 _ _ _ _
  have HB : Hid (Below w.heap.size w (y0.alloc (.cells #[.slice a0 S.nc c0, .slice a1 S.nl c1, .slice a2 S.nw c2] 28)) ∧ St (y0.alloc (.cells #[.slice a0 S.nc c0, .slice a1 S.nl c1, .slice a2 S.nw c2] 28)) 0 S (.slice a0 S.nc c0) (.slice a1 S.nl c1) (.slice a2 S.nw c2)) := ⟨HB.out.1.alloc HB.out.1.size _, HB.out.2.alloc _⟩
  obtain ⟨⟨t0, t1, t2⟩, _⟩ := K0.out
  go_wp2_with fail
  generalize y0.alloc (.cells #[.slice a0 S.nc c0, .slice a1 S.nl c1, .slice a2 S.nw c2] 28) = x0 at HB K0 t0 t1 t2 ⊢
  obtain ⟨b0, hb0⟩ : ∃ b, y0.heap.size = b := ⟨_, rfl⟩
  rw [hb0] at K0 t0 t1 t2 ⊢
  clear hb0
  refine (implLastWrite_is S _ _ _ key ts c6 n6 F6 0 _ HB.out.2 A6.out).mono ?_
  rintro e y1 ⟨g6, p6, rfl, r6, _, q⟩
  have qa : Below x0.heap.size x0 (y1.alloc (.cells #[.int .i64 c6, .slice g6 n6 p6] 32)) := q.alloc q.size _
  have K0 : Hid (Blk3 (y1.alloc (.cells #[.int .i64 c6, .slice g6 n6 p6] 32)) b0 (.slice a0 S.nc c0) (.slice a1 S.nl c1) (.slice a2 S.nw c2)) := K0.out.later qa
  have HB : Hid (Below w.heap.size w (y1.alloc (.cells #[.int .i64 c6, .slice g6 n6 p6] 32)) ∧ St (y1.alloc (.cells #[.int .i64 c6, .slice g6 n6 p6] 32)) 0 S (.slice a0 S.nc c0) (.slice a1 S.nl c1) (.slice a2 S.nw c2)) := ⟨HB.out.1.trans (qa.mono HB.out.1.size), HB.out.2.later qa⟩
  have K6 : Hid (Blk2 (y1.alloc (.cells #[.int .i64 c6, .slice g6 n6 p6] 32)) y1.heap.size (.int .i64 c6) (.slice g6 n6 p6) ∧ Row (y1.alloc (.cells #[.int .i64 c6, .slice g6 n6 p6] 32)) 0 4 n6 F6 (.slice g6 n6 p6)) := ⟨Blk2.new y1 _ _ _, (r6.mono (Nat.zero_le _)).alloc _⟩
  clear r6
  clear q qa t0 t1 t2
  obtain ⟨⟨t0, t1, t2⟩, _⟩ := K0.out
  go_wp2_with fail
  generalize y1.alloc (.cells #[.int .i64 c6, .slice g6 n6 p6] 32) = x1 at HB K0 K6 t0 t1 t2 ⊢
  obtain ⟨b6, hb6⟩ : ∃ b, y1.heap.size = b := ⟨_, rfl⟩
  rw [hb6] at K6 ⊢
  clear hb6
  refine (implWriteOf_is S _ _ _ key ts c7 n7 F7 0 _ HB.out.2 A7.out).mono ?_
  rintro e y2 ⟨g7, p7, rfl, r7, _, q⟩
  have qa : Below x1.heap.size x1 (y2.alloc (.cells #[.int .i64 c7, .slice g7 n7 p7] 32)) := q.alloc q.size _
  have K0 : Hid (Blk3 (y2.alloc (.cells #[.int .i64 c7, .slice g7 n7 p7] 32)) b0 (.slice a0 S.nc c0) (.slice a1 S.nl c1) (.slice a2 S.nw c2)) := K0.out.later qa
  have HB : Hid (Below w.heap.size w (y2.alloc (.cells #[.int .i64 c7, .slice g7 n7 p7] 32)) ∧ St (y2.alloc (.cells #[.int .i64 c7, .slice g7 n7 p7] 32)) 0 S (.slice a0 S.nc c0) (.slice a1 S.nl c1) (.slice a2 S.nw c2)) := ⟨HB.out.1.trans (qa.mono HB.out.1.size), HB.out.2.later qa⟩
  have K6 : Hid (Blk2 (y2.alloc (.cells #[.int .i64 c7, .slice g7 n7 p7] 32)) b6 (.int .i64 c6) (.slice g6 n6 p6) ∧ Row (y2.alloc (.cells #[.int .i64 c7, .slice g7 n7 p7] 32)) 0 4 n6 F6 (.slice g6 n6 p6)) := ⟨K6.out.1.later qa, K6.out.2.later qa⟩
  have K7 : Hid (Blk2 (y2.alloc (.cells #[.int .i64 c7, .slice g7 n7 p7] 32)) y2.heap.size (.int .i64 c7) (.slice g7 n7 p7) ∧ Row (y2.alloc (.cells #[.int .i64 c7, .slice g7 n7 p7] 32)) 0 4 n7 F7 (.slice g7 n7 p7)) := ⟨Blk2.new y2 _ _ _, (r7.mono (Nat.zero_le _)).alloc _⟩
  clear r7
  clear q qa t0 t1 t2
  obtain ⟨⟨t0, t1, t2⟩, _⟩ := K0.out
  go_wp2_with fail
  generalize y2.alloc (.cells #[.int .i64 c7, .slice g7 n7 p7] 32) = x2 at HB K0 K6 K7 t0 t1 t2 ⊢
  obtain ⟨b7, hb7⟩ : ∃ b, y2.heap.size = b := ⟨_, rfl⟩
  rw [hb7] at K7 ⊢
  clear hb7
  refine (implCellAt_ans S _ _ _ key ts c8 d8 0 _ HB.out.2 HW.out A8.out).mono ?_
  rintro e y3 ⟨rfl, q⟩
  have qa : Below x2.heap.size x2 (y3.alloc (.cells #[.int .i64 c8, .int .i64 d8] 35)) := q.alloc q.size _
  have K0 : Hid (Blk3 (y3.alloc (.cells #[.int .i64 c8, .int .i64 d8] 35)) b0 (.slice a0 S.nc c0) (.slice a1 S.nl c1) (.slice a2 S.nw c2)) := K0.out.later qa
  have HB : Hid (Below w.heap.size w (y3.alloc (.cells #[.int .i64 c8, .int .i64 d8] 35)) ∧ St (y3.alloc (.cells #[.int .i64 c8, .int .i64 d8] 35)) 0 S (.slice a0 S.nc c0) (.slice a1 S.nl c1) (.slice a2 S.nw c2)) := ⟨HB.out.1.trans (qa.mono HB.out.1.size), HB.out.2.later qa⟩
  have K6 : Hid (Blk2 (y3.alloc (.cells #[.int .i64 c8, .int .i64 d8] 35)) b6 (.int .i64 c6) (.slice g6 n6 p6) ∧ Row (y3.alloc (.cells #[.int .i64 c8, .int .i64 d8] 35)) 0 4 n6 F6 (.slice g6 n6 p6)) := ⟨K6.out.1.later qa, K6.out.2.later qa⟩
  have K7 : Hid (Blk2 (y3.alloc (.cells #[.int .i64 c8, .int .i64 d8] 35)) b7 (.int .i64 c7) (.slice g7 n7 p7) ∧ Row (y3.alloc (.cells #[.int .i64 c8, .int .i64 d8] 35)) 0 4 n7 F7 (.slice g7 n7 p7)) := ⟨K7.out.1.later qa, K7.out.2.later qa⟩
  have K8 : Hid (Blk2 (y3.alloc (.cells #[.int .i64 c8, .int .i64 d8] 35)) y3.heap.size (.int .i64 c8) (.int .i64 d8)) := Blk2.new y3 _ _ _
  clear q qa t0 t1 t2
  obtain ⟨⟨t0, t1, t2⟩, _⟩ := K0.out
  go_wp2_with fail
  generalize y3.alloc (.cells #[.int .i64 c8, .int .i64 d8] 35) = x3 at HB K0 K6 K7 K8 t0 t1 t2 ⊢
  obtain ⟨b8, hb8⟩ : ∃ b, y3.heap.size = b := ⟨_, rfl⟩
  rw [hb8] at K8 ⊢
  clear hb8
  refine (implLockAt_is S _ _ _ key c9 n9 F9 0 _ HB.out.2 A9.out).mono ?_
  rintro e y4 ⟨g9, p9, rfl, r9, _, q⟩
  have qa : Below x3.heap.size x3 (y4.alloc (.cells #[.int .i64 c9, .slice g9 n9 p9] 38)) := q.alloc q.size _
  have K0 : Hid (Blk3 (y4.alloc (.cells #[.int .i64 c9, .slice g9 n9 p9] 38)) b0 (.slice a0 S.nc c0) (.slice a1 S.nl c1) (.slice a2 S.nw c2)) := K0.out.later qa
  have HB : Hid (Below w.heap.size w (y4.alloc (.cells #[.int .i64 c9, .slice g9 n9 p9] 38)) ∧ St (y4.alloc (.cells #[.int .i64 c9, .slice g9 n9 p9] 38)) 0 S (.slice a0 S.nc c0) (.slice a1 S.nl c1) (.slice a2 S.nw c2)) := ⟨HB.out.1.trans (qa.mono HB.out.1.size), HB.out.2.later qa⟩
  have K6 : Hid (Blk2 (y4.alloc (.cells #[.int .i64 c9, .slice g9 n9 p9] 38)) b6 (.int .i64 c6) (.slice g6 n6 p6) ∧ Row (y4.alloc (.cells #[.int .i64 c9, .slice g9 n9 p9] 38)) 0 4 n6 F6 (.slice g6 n6 p6)) := ⟨K6.out.1.later qa, K6.out.2.later qa⟩
  have K7 : Hid (Blk2 (y4.alloc (.cells #[.int .i64 c9, .slice g9 n9 p9] 38)) b7 (.int .i64 c7) (.slice g7 n7 p7) ∧ Row (y4.alloc (.cells #[.int .i64 c9, .slice g9 n9 p9] 38)) 0 4 n7 F7 (.slice g7 n7 p7)) := ⟨K7.out.1.later qa, K7.out.2.later qa⟩
  have K8 : Hid (Blk2 (y4.alloc (.cells #[.int .i64 c9, .slice g9 n9 p9] 38)) b8 (.int .i64 c8) (.int .i64 d8)) := K8.out.later qa
  have K9 : Hid (Blk2 (y4.alloc (.cells #[.int .i64 c9, .slice g9 n9 p9] 38)) y4.heap.size (.int .i64 c9) (.slice g9 n9 p9) ∧ Row (y4.alloc (.cells #[.int .i64 c9, .slice g9 n9 p9] 38)) 0 5 n9 F9 (.slice g9 n9 p9)) := ⟨Blk2.new y4 _ _ _, (r9.mono (Nat.zero_le _)).alloc _⟩
  clear r9
  clear q qa t0 t1 t2
  obtain ⟨⟨t0, t1, t2⟩, _⟩ := K0.out
  go_wp2_with fail
  generalize y4.alloc (.cells #[.int .i64 c9, .slice g9 n9 p9] 38) = x4 at HB K0 K6 K7 K8 K9 t0 t1 t2 ⊢
  obtain ⟨b9, hb9⟩ : ∃ b, y4.heap.size = b := ⟨_, rfl⟩
  rw [hb9] at K9 ⊢
  clear hb9
  refine (implCountWrites_is S _ _ _ key c10 d10 0 _ HB.out.2 A10.out).mono ?_
  rintro e y5 ⟨rfl, q⟩
  have qa : Below x4.heap.size x4 (y5.alloc (.cells #[.int .i64 c10, .int .i64 d10] 35)) := q.alloc q.size _
  have K0 : Hid (Blk3 (y5.alloc (.cells #[.int .i64 c10, .int .i64 d10] 35)) b0 (.slice a0 S.nc c0) (.slice a1 S.nl c1) (.slice a2 S.nw c2)) := K0.out.later qa
  have HB : Hid (Below w.heap.size w (y5.alloc (.cells #[.int .i64 c10, .int .i64 d10] 35)) ∧ St (y5.alloc (.cells #[.int .i64 c10, .int .i64 d10] 35)) 0 S (.slice a0 S.nc c0) (.slice a1 S.nl c1) (.slice a2 S.nw c2)) := ⟨HB.out.1.trans (qa.mono HB.out.1.size), HB.out.2.later qa⟩
  have K6 : Hid (Blk2 (y5.alloc (.cells #[.int .i64 c10, .int .i64 d10] 35)) b6 (.int .i64 c6) (.slice g6 n6 p6) ∧ Row (y5.alloc (.cells #[.int .i64 c10, .int .i64 d10] 35)) 0 4 n6 F6 (.slice g6 n6 p6)) := ⟨K6.out.1.later qa, K6.out.2.later qa⟩
  have K7 : Hid (Blk2 (y5.alloc (.cells #[.int .i64 c10, .int .i64 d10] 35)) b7 (.int .i64 c7) (.slice g7 n7 p7) ∧ Row (y5.alloc (.cells #[.int .i64 c10, .int .i64 d10] 35)) 0 4 n7 F7 (.slice g7 n7 p7)) := ⟨K7.out.1.later qa, K7.out.2.later qa⟩
  have K8 : Hid (Blk2 (y5.alloc (.cells #[.int .i64 c10, .int .i64 d10] 35)) b8 (.int .i64 c8) (.int .i64 d8)) := K8.out.later qa
  have K9 : Hid (Blk2 (y5.alloc (.cells #[.int .i64 c10, .int .i64 d10] 35)) b9 (.int .i64 c9) (.slice g9 n9 p9) ∧ Row (y5.alloc (.cells #[.int .i64 c10, .int .i64 d10] 35)) 0 5 n9 F9 (.slice g9 n9 p9)) := ⟨K9.out.1.later qa, K9.out.2.later qa⟩
  have K10 : Hid (Blk2 (y5.alloc (.cells #[.int .i64 c10, .int .i64 d10] 35)) y5.heap.size (.int .i64 c10) (.int .i64 d10)) := Blk2.new y5 _ _ _
  clear q qa t0 t1 t2
  go_upto_region 9 with fail
  generalize y5.alloc (.cells #[.int .i64 c10, .int .i64 d10] 35) = x5 at HB K0 K6 K7 K8 K9 K10 ⊢
  obtain ⟨b10, hb10⟩ : ∃ b, y5.heap.size = b := ⟨_, rfl⟩
  rw [hb10] at K10 ⊢
  clear hb10
  have HE : Hid (EnvF w b0 b6 b7 b8 b9 b10 S (.slice a0 S.nc c0) (.slice a1 S.nl c1) (.slice a2 S.nw c2) c6 n6 F6 (.slice g6 n6 p6) c7 n7 F7 (.slice g7 n7 p7) c8 d8 c9 n9 F9 (.slice g9 n9 p9) c10 d10 x5) := ⟨HB.out.1, K0.out, HB.out.2, K6.out.1, K6.out.2, K7.out.1, K7.out.2, K8.out, K9.out.1, K9.out.2, K10.out⟩
  clear HB K0 K6 K7 K8 K9 K10
  go_cut [83] (fun s wx => s = .bool false ∧ Hid (EnvF w b0 b6 b7 b8 b9 b10 S (.slice a0 S.nc c0) (.slice a1 S.nl c1) (.slice a2 S.nw c2) c6 n6 F6 (.slice g6 n6 p6) c7 n7 F7 (.slice g7 n7 p7) c8 d8 c9 n9 F9 (.slice g9 n9 p9) c10 d10 wx))
  case first =>
    have hS0 : EnvF w b0 b6 b7 b8 b9 b10 S (.slice a0 S.nc c0) (.slice a1 S.nl c1) (.slice a2 S.nw c2) c6 n6 F6 (.slice g6 n6 p6) c7 n7 F7 (.slice g7 n7 p7) c8 d8 c9 n9 F9 (.slice g9 n9 p9) c10 d10 x5.drew := HE.out.later (Below.drew (Below.refl _ _))
    have f0 := field_wr0
    have f1 := field_lr0
    have f2 := field_ir0
    refine wp_region_held_drew (S := EnvF w b0 b6 b7 b8 b9 b10 S (.slice a0 S.nc c0) (.slice a1 S.nl c1) (.slice a2 S.nw c2) c6 n6 F6 (.slice g6 n6 p6) c7 n7 F7 (.slice g7 n7 p7) c8 d8 c9 n9 F9 (.slice g9 n9 p9) c10 d10) (by kernel_rfl) hS0 (fun hS => ?_)
    clear hS0 HE
    generalize x5.drew = z0 at hS ⊢
    refine tkH 0 ?_ hS (fun wx hx => ?_) ?_; rotate_left
    · obtain ⟨j0, j1, j2, j3, j4, j5, j6, j7, j8, j9, ja, jb, jc⟩ := hx.cells; go_simp; try with_reducible rfl
    refine tkH 1 ?_ hS (fun wx hx => ?_) ?_; rotate_left
    · obtain ⟨j0, j1, j2, j3, j4, j5, j6, j7, j8, j9, ja, jb, jc⟩ := hx.cells; go_simp; try with_reducible rfl
    refine tkH 2 ?_ hS (fun wx hx => ?_) ?_; rotate_left
    · obtain ⟨j0, j1, j2, j3, j4, j5, j6, j7, j8, j9, ja, jb, jc⟩ := hx.cells; go_simp; try with_reducible rfl
    try simp only [Act.put, List.getElem_toArray, List.getElem_cons_zero, List.getElem_cons_succ, List.setIfInBounds_toArray, List.set_cons_succ, List.set_cons_zero]
    refine tkH 3 ?_ hS (fun wx hx => ?_) ?_; rotate_left
    · obtain ⟨j0, j1, j2, j3, j4, j5, j6, j7, j8, j9, ja, jb, jc⟩ := hx.cells; go_simp; try with_reducible rfl
    refine tkH 4 ?_ hS (fun wx hx => ?_) ?_; rotate_left
    · obtain ⟨j0, j1, j2, j3, j4, j5, j6, j7, j8, j9, ja, jb, jc⟩ := hx.cells; go_simp; try with_reducible rfl
    refine rdH 5 (fun K hK => ?_)
    go_simp
    go_wp2_with fail
    refine (specLastWrite_is S _ _ _ key ts c6 n6 F6 0 _ hS.st A6.out).mono ?_
    rintro e z1 ⟨ga, pa, rfl, _, _, q⟩
    go_wp2_with fail
    refine hK.out _ _ (hS.later q) (fun hS => ?_)
    clear hK K q
    refine tkH 6 ?_ hS (fun wx hx => ?_) ?_; rotate_left
    · obtain ⟨j0, j1, j2, j3, j4, j5, j6, j7, j8, j9, ja, jb, jc⟩ := hx.cells; go_simp; try with_reducible rfl
    refine tkH 7 ?_ hS (fun wx hx => ?_) ?_; rotate_left
    · obtain ⟨j0, j1, j2, j3, j4, j5, j6, j7, j8, j9, ja, jb, jc⟩ := hx.cells; go_simp; try with_reducible rfl
    refine tkH 8 ?_ hS (fun wx hx => ?_) ?_; rotate_left
    · obtain ⟨j0, j1, j2, j3, j4, j5, j6, j7, j8, j9, ja, jb, jc⟩ := hx.cells; go_simp; try with_reducible rfl
    try simp only [Act.put, List.getElem_toArray, List.getElem_cons_zero, List.getElem_cons_succ, List.setIfInBounds_toArray, List.set_cons_succ, List.set_cons_zero]
    refine tkH 9 ?_ hS (fun wx hx => ?_) ?_; rotate_left
    · obtain ⟨j0, j1, j2, j3, j4, j5, j6, j7, j8, j9, ja, jb, jc⟩ := hx.cells; go_simp; try with_reducible rfl
    refine tkH 10 ?_ hS (fun wx hx => ?_) ?_; rotate_left
    · obtain ⟨j0, j1, j2, j3, j4, j5, j6, j7, j8, j9, ja, jb, jc⟩ := hx.cells; go_simp; try with_reducible rfl
    refine tkH 11 ?_ hS (fun wx hx => ?_) ?_; rotate_left
    · obtain ⟨j0, j1, j2, j3, j4, j5, j6, j7, j8, j9, ja, jb, jc⟩ := hx.cells; go_simp; try with_reducible rfl
    try simp only [Act.put, List.getElem_toArray, List.getElem_cons_zero, List.getElem_cons_succ, List.setIfInBounds_toArray, List.set_cons_succ, List.set_cons_zero]
    refine tkH 12 ?_ hS (fun wx hx => ?_) ?_; rotate_left
    · obtain ⟨j0, j1, j2, j3, j4, j5, j6, j7, j8, j9, ja, jb, jc⟩ := hx.cells; go_simp; try with_reducible rfl
    refine tkH 13 ?_ hS (fun wx hx => ?_) ?_; rotate_left
    · obtain ⟨j0, j1, j2, j3, j4, j5, j6, j7, j8, j9, ja, jb, jc⟩ := hx.cells; go_simp; try with_reducible rfl
    refine rdH 14 (fun K hK => ?_)
    go_simp
    go_wp2_with fail
    refine (specWriteOf_is S _ _ _ key ts c7 n7 F7 0 _ hS.st A7.out).mono ?_
    rintro e z2 ⟨ga, pa, rfl, _, _, q⟩
    go_wp2_with fail
    refine hK.out _ _ (hS.later q) (fun hS => ?_)
    clear hK K q
    refine tkH 15 ?_ hS (fun wx hx => ?_) ?_; rotate_left
    · obtain ⟨j0, j1, j2, j3, j4, j5, j6, j7, j8, j9, ja, jb, jc⟩ := hx.cells; go_simp; try with_reducible rfl
    refine tkH 16 ?_ hS (fun wx hx => ?_) ?_; rotate_left
    · obtain ⟨j0, j1, j2, j3, j4, j5, j6, j7, j8, j9, ja, jb, jc⟩ := hx.cells; go_simp; try with_reducible rfl
    refine tkH 17 ?_ hS (fun wx hx => ?_) ?_; rotate_left
    · obtain ⟨j0, j1, j2, j3, j4, j5, j6, j7, j8, j9, ja, jb, jc⟩ := hx.cells; go_simp; try with_reducible rfl
    try simp only [Act.put, List.getElem_toArray, List.getElem_cons_zero, List.getElem_cons_succ, List.setIfInBounds_toArray, List.set_cons_succ, List.set_cons_zero]
    refine tkH 18 ?_ hS (fun wx hx => ?_) ?_; rotate_left
    · obtain ⟨j0, j1, j2, j3, j4, j5, j6, j7, j8, j9, ja, jb, jc⟩ := hx.cells; go_simp; try with_reducible rfl
    refine tkH 19 ?_ hS (fun wx hx => ?_) ?_; rotate_left
    · obtain ⟨j0, j1, j2, j3, j4, j5, j6, j7, j8, j9, ja, jb, jc⟩ := hx.cells; go_simp; try with_reducible rfl
    refine tkH 20 ?_ hS (fun wx hx => ?_) ?_; rotate_left
    · obtain ⟨j0, j1, j2, j3, j4, j5, j6, j7, j8, j9, ja, jb, jc⟩ := hx.cells; go_simp; try with_reducible rfl
    try simp only [Act.put, List.getElem_toArray, List.getElem_cons_zero, List.getElem_cons_succ, List.setIfInBounds_toArray, List.set_cons_succ, List.set_cons_zero]
    refine tkH 21 ?_ hS (fun wx hx => ?_) ?_; rotate_left
    · obtain ⟨j0, j1, j2, j3, j4, j5, j6, j7, j8, j9, ja, jb, jc⟩ := hx.cells; go_simp; try with_reducible rfl
    refine tkH 22 ?_ hS (fun wx hx => ?_) ?_; rotate_left
    · obtain ⟨j0, j1, j2, j3, j4, j5, j6, j7, j8, j9, ja, jb, jc⟩ := hx.cells; go_simp; try with_reducible rfl
    refine tkH 23 ?_ hS (fun wx hx => ?_) ?_; rotate_left
    · obtain ⟨j0, j1, j2, j3, j4, j5, j6, j7, j8, j9, ja, jb, jc⟩ := hx.cells; go_simp; try with_reducible rfl
    refine rdH 24 (fun K hK => ?_)
    go_simp
    go_wp2_with fail
    refine (specCellAt_ans S _ _ _ key ts c8 d8 0 _ hS.st A8.out).mono ?_
    rintro e z3 ⟨rfl, q⟩
    go_wp2_with fail
    refine hK.out _ _ (hS.later q) (fun hS => ?_)
    clear hK K q
    refine tkH 25 ?_ hS (fun wx hx => ?_) ?_; rotate_left
    · obtain ⟨j0, j1, j2, j3, j4, j5, j6, j7, j8, j9, ja, jb, jc⟩ := hx.cells; go_simp; try with_reducible rfl
    refine tkH 26 ?_ hS (fun wx hx => ?_) ?_; rotate_left
    · obtain ⟨j0, j1, j2, j3, j4, j5, j6, j7, j8, j9, ja, jb, jc⟩ := hx.cells; go_simp; try with_reducible rfl
    refine tkH 27 ?_ hS (fun wx hx => ?_) ?_; rotate_left
    · obtain ⟨j0, j1, j2, j3, j4, j5, j6, j7, j8, j9, ja, jb, jc⟩ := hx.cells; go_simp; try with_reducible rfl
    try simp only [Act.put, List.getElem_toArray, List.getElem_cons_zero, List.getElem_cons_succ, List.setIfInBounds_toArray, List.set_cons_succ, List.set_cons_zero]
    refine tkH 28 ?_ hS (fun wx hx => ?_) ?_; rotate_left
    · obtain ⟨j0, j1, j2, j3, j4, j5, j6, j7, j8, j9, ja, jb, jc⟩ := hx.cells; go_simp; try with_reducible rfl
    refine tkH 29 ?_ hS (fun wx hx => ?_) ?_; rotate_left
    · obtain ⟨j0, j1, j2, j3, j4, j5, j6, j7, j8, j9, ja, jb, jc⟩ := hx.cells; go_simp; try with_reducible rfl
    refine tkH 30 ?_ hS (fun wx hx => ?_) ?_; rotate_left
    · obtain ⟨j0, j1, j2, j3, j4, j5, j6, j7, j8, j9, ja, jb, jc⟩ := hx.cells; go_simp; try with_reducible rfl
    try simp only [Act.put, List.getElem_toArray, List.getElem_cons_zero, List.getElem_cons_succ, List.setIfInBounds_toArray, List.set_cons_succ, List.set_cons_zero]
    refine tkH 31 ?_ hS (fun wx hx => ?_) ?_; rotate_left
    · obtain ⟨j0, j1, j2, j3, j4, j5, j6, j7, j8, j9, ja, jb, jc⟩ := hx.cells; go_simp; try with_reducible rfl
    refine tkH 32 ?_ hS (fun wx hx => ?_) ?_; rotate_left
    · obtain ⟨j0, j1, j2, j3, j4, j5, j6, j7, j8, j9, ja, jb, jc⟩ := hx.cells; go_simp; try with_reducible rfl
    refine rdH 33 (fun K hK => ?_)
    go_simp
    go_wp2_with fail
    refine (specLockAt_is S _ _ _ key c9 n9 F9 0 _ hS.st A9.out).mono ?_
    rintro e z4 ⟨ga, pa, rfl, _, _, q⟩
    go_wp2_with fail
    refine hK.out _ _ (hS.later q) (fun hS => ?_)
    clear hK K q
    refine tkH 34 ?_ hS (fun wx hx => ?_) ?_; rotate_left
    · obtain ⟨j0, j1, j2, j3, j4, j5, j6, j7, j8, j9, ja, jb, jc⟩ := hx.cells; go_simp; try with_reducible rfl
    refine tkH 35 ?_ hS (fun wx hx => ?_) ?_; rotate_left
    · obtain ⟨j0, j1, j2, j3, j4, j5, j6, j7, j8, j9, ja, jb, jc⟩ := hx.cells; go_simp; try with_reducible rfl
    refine tkH 36 ?_ hS (fun wx hx => ?_) ?_; rotate_left
    · obtain ⟨j0, j1, j2, j3, j4, j5, j6, j7, j8, j9, ja, jb, jc⟩ := hx.cells; go_simp; try with_reducible rfl
    try simp only [Act.put, List.getElem_toArray, List.getElem_cons_zero, List.getElem_cons_succ, List.setIfInBounds_toArray, List.set_cons_succ, List.set_cons_zero]
    refine tkH 37 ?_ hS (fun wx hx => ?_) ?_; rotate_left
    · obtain ⟨j0, j1, j2, j3, j4, j5, j6, j7, j8, j9, ja, jb, jc⟩ := hx.cells; go_simp; try with_reducible rfl
    refine tkH 38 ?_ hS (fun wx hx => ?_) ?_; rotate_left
    · obtain ⟨j0, j1, j2, j3, j4, j5, j6, j7, j8, j9, ja, jb, jc⟩ := hx.cells; go_simp; try with_reducible rfl
    refine tkH 39 ?_ hS (fun wx hx => ?_) ?_; rotate_left
    · obtain ⟨j0, j1, j2, j3, j4, j5, j6, j7, j8, j9, ja, jb, jc⟩ := hx.cells; go_simp; try with_reducible rfl
    try simp only [Act.put, List.getElem_toArray, List.getElem_cons_zero, List.getElem_cons_succ, List.setIfInBounds_toArray, List.set_cons_succ, List.set_cons_zero]
    refine tkH 40 ?_ hS (fun wx hx => ?_) ?_; rotate_left
    · obtain ⟨j0, j1, j2, j3, j4, j5, j6, j7, j8, j9, ja, jb, jc⟩ := hx.cells; go_simp; try with_reducible rfl
    refine tkH 41 ?_ hS (fun wx hx => ?_) ?_; rotate_left
    · obtain ⟨j0, j1, j2, j3, j4, j5, j6, j7, j8, j9, ja, jb, jc⟩ := hx.cells; go_simp; try with_reducible rfl
    refine rdH 42 (fun K hK => ?_)
    go_simp
    go_wp2_with fail
    refine (specCountWrites_is S _ _ _ key c10 d10 0 _ hS.st A10.out).mono ?_
    rintro e z5 ⟨rfl, q⟩
    go_wp2_with fail
    refine hK.out _ _ (hS.later q) (fun hS => ?_)
    clear hK K q
    refine tkH 43 ?_ hS (fun wx hx => ?_) ?_; rotate_left
    · obtain ⟨j0, j1, j2, j3, j4, j5, j6, j7, j8, j9, ja, jb, jc⟩ := hx.cells; go_simp; try with_reducible rfl
    refine tkH 44 ?_ hS (fun wx hx => ?_) ?_; rotate_left
    · obtain ⟨j0, j1, j2, j3, j4, j5, j6, j7, j8, j9, ja, jb, jc⟩ := hx.cells; go_simp; try with_reducible rfl
    refine tkH 45 ?_ hS (fun wx hx => ?_) ?_; rotate_left
    · obtain ⟨j0, j1, j2, j3, j4, j5, j6, j7, j8, j9, ja, jb, jc⟩ := hx.cells; go_simp; try with_reducible rfl
    refine wpAnyH_done (by kernel_rfl) ?_ _
    have HE := hid_mkC hS
    clear hS f0 f1 f2
    go_simp
    go_wp2_with fail
    go_meet
    case rel => exact ⟨rfl, HE⟩
  case rest =>
  clear HE
  obtain ⟨rfl, HE⟩ := hcut
  obtain ⟨⟨t0, t1⟩, _⟩ := HE.out.k6
  go_upto_if 86 with fail
  go_cut [2] (fun s wx => s = .bool false ∧ Hid (EnvF w b0 b6 b7 b8 b9 b10 S (.slice a0 S.nc c0) (.slice a1 S.nl c1) (.slice a2 S.nw c2) c6 n6 F6 (.slice g6 n6 p6) c7 n7 F7 (.slice g7 n7 p7) c8 d8 c9 n9 F9 (.slice g9 n9 p9) c10 d10 wx))
  case first =>
    by_cases hc : c6 = 0
    case neg =>
      have dc : (c6 == 0) = false := beq_eq_false_iff_ne.2 hc
      clear hc t0 t1
      go_wp2_with fail
      go_meet
      case rel => exact ⟨rfl, HE⟩
    clear t0 t1
    rcases A6.out with ⟨h0, h1, _⟩ | ⟨_, _, h1, _⟩ | ⟨hz, i, hi, hl, _, rfl, rfl⟩
    · exact absurd (h1.symm.trans hc) h0
    · exact absurd (h1.symm.trans hc) (by decide)
    subst hc
    obtain ⟨gr, o6, rfl, _, hgr, w0, w1, w2, w3⟩ := HE.out.r6.at4 (k := 0) (by decide)
    simp only [Nat.zero_mul, Nat.add_zero] at w0 w1 w2 w3
    obtain ⟨n0, N0⟩ : ∃ x, S.k (i * 4) = x := ⟨_, rfl⟩
    obtain ⟨n1, N1⟩ : ∃ x, S.k (i * 4 + 1) = x := ⟨_, rfl⟩
    obtain ⟨n2, N2⟩ : ∃ x, S.k (i * 4 + 2) = x := ⟨_, rfl⟩
    obtain ⟨n3, N3⟩ : ∃ x, S.k (i * 4 + 3) = x := ⟨_, rfl⟩
    have hZ := storeF_zero (askF_zero hz).1
    have hW3 := writeF_zero (scan_zero hZ.2.2.2.1 i hi)
    have hself := hl.self
    have hcell : n3 = 1 → hasCell S S.nc key n2 := fun q => by have := hZ.2.2.2.2.1.1 i hi (N3.trans q); rwa [hl.2.1.1, N2] at this
    have AL : Hid (LastWriteAns S key n1 0 1 (fun p => S.k (i * 4 + p))) := Or.inr (Or.inr ⟨hz, i, hi, by rw [← N1]; exact hself, rfl, rfl, rfl⟩)
    have AC : Hid (n3 = 1 → cellAtC S key n2 = 0) := fun q => by unfold cellAtC; rw [if_neg (fun z => z hz), if_pos (hcell q)]
    have WF : Hid (Wf n2) := wf_small (by omega) (by omega)
    have hd : 1 ≤ d10 := by
      rcases A10.out with ⟨h0, _⟩ | ⟨_, _, rfl⟩
      · exact absurd hz h0
      · have := cntW_pos hi hl.2.1.1; omega
    have dd : decide (d10 < 1) = false := decide_eq_false (by omega)
    have dt : decide (ts < n1) = false := decide_eq_false (by have := hl.2.1.2.1; omega)
    have hk : n0 = key := N0.symm.trans hl.2.1.1
    have NN : Hid (S.k (i * 4) = key ∧ S.k (i * 4 + 1) = n1 ∧ S.k (i * 4 + 2) = n2 ∧ S.k (i * 4 + 3) = n3) := ⟨hl.2.1.1, N1, N2, N3⟩
    try simp only [Nat.add_zero] at w0
    rw [hl.2.1.1] at w0
    rw [N1] at w1
    rw [N2] at w2
    rw [N3] at w3
    clear hself hcell hW3 hZ hl N0 N1 N2 N3 hk hd hi
    obtain ⟨⟨t0, t1⟩, _⟩ := HE.out.k6
    go_upto_region 13 with fail
    have hS0 : (fun x => EnvF w b0 b6 b7 b8 b9 b10 S (.slice a0 S.nc c0) (.slice a1 S.nl c1) (.slice a2 S.nw c2) 0 1 (fun p => S.k (i * 4 + p)) (.slice (some ⟨gr, o6, none⟩) 1 p6) c7 n7 F7 (.slice g7 n7 p7) c8 d8 c9 n9 F9 (.slice g9 n9 p9) c10 d10 x ∧ Blk4 x wc.heap.size (.int .i64 key) (.int .i64 n1) (.int .i64 n2) (.int .i64 n3)) (wc.alloc (.cells #[.int .i64 key, .int .i64 n1, .int .i64 n2, .int .i64 n3] 42)).drew := ⟨HE.out.later (Below.drew ((Below.refl _ _).alloc (Nat.le_refl _) _)), (Blk4.new wc _ _ _ _ _).later (Below.drew (Below.refl _ _))⟩
    have f0 := field_wr1
    have f1 := field_ir0
    have f2 := neqWrite key n1 n2 n3
    clear t0 t1 w0 w1 w2 w3 hgr
    refine wp_region_held_drew (S := fun x => EnvF w b0 b6 b7 b8 b9 b10 S (.slice a0 S.nc c0) (.slice a1 S.nl c1) (.slice a2 S.nw c2) 0 1 (fun p => S.k (i * 4 + p)) (.slice (some ⟨gr, o6, none⟩) 1 p6) c7 n7 F7 (.slice g7 n7 p7) c8 d8 c9 n9 F9 (.slice g9 n9 p9) c10 d10 x ∧ Blk4 x wc.heap.size (.int .i64 key) (.int .i64 n1) (.int .i64 n2) (.int .i64 n3)) (by kernel_rfl) hS0 (fun hS => ?_)
    clear hS0 HE
    generalize (wc.alloc (.cells #[.int .i64 key, .int .i64 n1, .int .i64 n2, .int .i64 n3] 42)).drew = z0 at hS ⊢
    generalize wc.heap.size = bx at hS ⊢
    refine tkH 0 ?_ hS (fun wx hx => ?_) ?_; rotate_left
    · obtain ⟨⟨m0, m1, m2, m3⟩, _⟩ := hx.2; obtain ⟨j0, j1, j2, _, _, _, _, _, _, _, _, jb, jc⟩ := hx.1.cells; go_simp; try with_reducible rfl
    refine tkH 1 ?_ hS (fun wx hx => ?_) ?_; rotate_left
    · obtain ⟨⟨m0, m1, m2, m3⟩, _⟩ := hx.2; obtain ⟨j0, j1, j2, _, _, _, _, _, _, _, _, jb, jc⟩ := hx.1.cells; go_simp; try with_reducible rfl
    refine tkH 2 ?_ hS (fun wx hx => ?_) ?_; rotate_left
    · obtain ⟨⟨m0, m1, m2, m3⟩, _⟩ := hx.2; obtain ⟨j0, j1, j2, _, _, _, _, _, _, _, _, jb, jc⟩ := hx.1.cells; go_simp; try with_reducible rfl
    try simp only [Act.put, List.getElem_toArray, List.getElem_cons_zero, List.getElem_cons_succ, List.setIfInBounds_toArray, List.set_cons_succ, List.set_cons_zero]
    refine tkH 3 ?_ hS (fun wx hx => ?_) ?_; rotate_left
    · obtain ⟨⟨m0, m1, m2, m3⟩, _⟩ := hx.2; obtain ⟨j0, j1, j2, _, _, _, _, _, _, _, _, jb, jc⟩ := hx.1.cells; go_simp; try with_reducible rfl
    refine tkH 4 ?_ hS (fun wx hx => ?_) ?_; rotate_left
    · obtain ⟨⟨m0, m1, m2, m3⟩, _⟩ := hx.2; obtain ⟨j0, j1, j2, _, _, _, _, _, _, _, _, jb, jc⟩ := hx.1.cells; go_simp; try with_reducible rfl
    refine tkH 5 ?_ hS (fun wx hx => ?_) ?_; rotate_left
    · obtain ⟨⟨m0, m1, m2, m3⟩, _⟩ := hx.2; obtain ⟨j0, j1, j2, _, _, _, _, _, _, _, _, jb, jc⟩ := hx.1.cells; go_simp; try with_reducible rfl
    try simp only [Act.put, List.getElem_toArray, List.getElem_cons_zero, List.getElem_cons_succ, List.setIfInBounds_toArray, List.set_cons_succ, List.set_cons_zero]
    refine tkH 6 ?_ hS (fun wx hx => ?_) ?_; rotate_left
    · obtain ⟨⟨m0, m1, m2, m3⟩, _⟩ := hx.2; obtain ⟨j0, j1, j2, _, _, _, _, _, _, _, _, jb, jc⟩ := hx.1.cells; go_simp; try with_reducible rfl
    refine tkH 7 ?_ hS (fun wx hx => ?_) ?_; rotate_left
    · obtain ⟨⟨m0, m1, m2, m3⟩, _⟩ := hx.2; obtain ⟨j0, j1, j2, _, _, _, _, _, _, _, _, jb, jc⟩ := hx.1.cells; go_simp; try with_reducible rfl
    refine tkH 8 ?_ hS (fun wx hx => ?_) ?_; rotate_left
    · obtain ⟨⟨m0, m1, m2, m3⟩, _⟩ := hx.2; obtain ⟨j0, j1, j2, _, _, _, _, _, _, _, _, jb, jc⟩ := hx.1.cells; go_simp; try with_reducible rfl
    try simp only [Act.put, List.getElem_toArray, List.getElem_cons_zero, List.getElem_cons_succ, List.setIfInBounds_toArray, List.set_cons_succ, List.set_cons_zero]
    refine tkH 9 ?_ hS (fun wx hx => ?_) ?_; rotate_left
    · obtain ⟨⟨m0, m1, m2, m3⟩, _⟩ := hx.2; obtain ⟨j0, j1, j2, _, _, _, _, _, _, _, _, jb, jc⟩ := hx.1.cells; go_simp; try with_reducible rfl
    refine tkH 10 ?_ hS (fun wx hx => ?_) ?_; rotate_left
    · obtain ⟨⟨m0, m1, m2, m3⟩, _⟩ := hx.2; obtain ⟨j0, j1, j2, _, _, _, _, _, _, _, _, jb, jc⟩ := hx.1.cells; go_simp; try with_reducible rfl
    refine tkH 11 ?_ hS (fun wx hx => ?_) ?_; rotate_left
    · obtain ⟨⟨m0, m1, m2, m3⟩, _⟩ := hx.2; obtain ⟨j0, j1, j2, _, _, _, _, _, _, _, _, jb, jc⟩ := hx.1.cells; go_simp; try with_reducible rfl
    try simp only [Act.put, List.getElem_toArray, List.getElem_cons_zero, List.getElem_cons_succ, List.setIfInBounds_toArray, List.set_cons_succ, List.set_cons_zero]
    refine tkH 12 ?_ hS (fun wx hx => ?_) ?_; rotate_left
    · obtain ⟨⟨m0, m1, m2, m3⟩, _⟩ := hx.2; obtain ⟨j0, j1, j2, _, _, _, _, _, _, _, _, jb, jc⟩ := hx.1.cells; go_simp; try with_reducible rfl
    refine tkH 13 ?_ hS (fun wx hx => ?_) ?_; rotate_left
    · obtain ⟨⟨m0, m1, m2, m3⟩, _⟩ := hx.2; obtain ⟨j0, j1, j2, _, _, _, _, _, _, _, _, jb, jc⟩ := hx.1.cells; go_simp; try with_reducible rfl
    refine tkH 14 ?_ hS (fun wx hx => ?_) ?_; rotate_left
    · obtain ⟨⟨m0, m1, m2, m3⟩, _⟩ := hx.2; obtain ⟨j0, j1, j2, _, _, _, _, _, _, _, _, jb, jc⟩ := hx.1.cells; go_simp; try with_reducible rfl
    refine tkH 19 ?_ hS (fun wx hx => ?_) ?_; rotate_left
    · obtain ⟨⟨m0, m1, m2, m3⟩, _⟩ := hx.2; obtain ⟨j0, j1, j2, _, _, _, _, _, _, _, _, jb, jc⟩ := hx.1.cells; go_simp; try with_reducible rfl
    refine rdH 15 (fun K hK => ?_)
    go_simp
    go_wp2_with fail
    refine (implLastWrite_is S _ _ _ key n1 0 1 (fun p => S.k (i * 4 + p)) 0 _ hS.1.st AL.out).mono ?_
    rintro e z1 ⟨ga, pa, rfl, ra, _, q⟩
    obtain ⟨gq, oq, rfl, _, _, x0, x1, x2, x3⟩ := ra.at4 (k := 0) (by decide)
    simp only [Nat.zero_mul, Nat.add_zero] at x0 x1 x2 x3
    try simp only [Nat.zero_add] at x0 x1 x2 x3
    rw [NN.out.1] at x0
    rw [NN.out.2.1] at x1
    rw [NN.out.2.2.1] at x2
    rw [NN.out.2.2.2] at x3
    go_wp2_with fail
    refine hK.out _ _ ⟨hS.1.later q, hS.2.later q⟩ (fun hS => ?_)
    clear hK K q ra
    refine tkH 16 ?_ hS (fun wx hx => ?_) ?_; rotate_left
    · obtain ⟨⟨m0, m1, m2, m3⟩, _⟩ := hx.2; obtain ⟨j0, j1, j2, _, _, _, _, _, _, _, _, jb, jc⟩ := hx.1.cells; go_simp; try with_reducible rfl
    refine tkH 17 ?_ hS (fun wx hx => ?_) ?_; rotate_left
    · obtain ⟨⟨m0, m1, m2, m3⟩, _⟩ := hx.2; obtain ⟨j0, j1, j2, _, _, _, _, _, _, _, _, jb, jc⟩ := hx.1.cells; go_simp; try with_reducible rfl
    refine rdH 18 (fun K hK => ?_)
    go_simp
    refine hK.out _ _ hS (fun hS => ?_)
    clear hK K x0 x1 x2 x3
    refine tkH 20 ?_ hS (fun wx hx => ?_) ?_; rotate_left
    · obtain ⟨⟨m0, m1, m2, m3⟩, _⟩ := hx.2; obtain ⟨j0, j1, j2, _, _, _, _, _, _, _, _, jb, jc⟩ := hx.1.cells; go_simp; try with_reducible rfl
    refine tkH 21 ?_ hS (fun wx hx => ?_) ?_; rotate_left
    · obtain ⟨⟨m0, m1, m2, m3⟩, _⟩ := hx.2; obtain ⟨j0, j1, j2, _, _, _, _, _, _, _, _, jb, jc⟩ := hx.1.cells; go_simp; try with_reducible rfl
    refine tkH 22 ?_ hS (fun wx hx => ?_) ?_; rotate_left
    · obtain ⟨⟨m0, m1, m2, m3⟩, _⟩ := hx.2; obtain ⟨j0, j1, j2, _, _, _, _, _, _, _, _, jb, jc⟩ := hx.1.cells; go_simp; try with_reducible rfl
    try simp only [Act.put, List.getElem_toArray, List.getElem_cons_zero, List.getElem_cons_succ, List.setIfInBounds_toArray, List.set_cons_succ, List.set_cons_zero]
    refine tkH 23 ?_ hS (fun wx hx => ?_) ?_; rotate_left
    · obtain ⟨⟨m0, m1, m2, m3⟩, _⟩ := hx.2; obtain ⟨j0, j1, j2, _, _, _, _, _, _, _, _, jb, jc⟩ := hx.1.cells; go_simp; try with_reducible rfl
    refine tkH 24 ?_ hS (fun wx hx => ?_) ?_; rotate_left
    · obtain ⟨⟨m0, m1, m2, m3⟩, _⟩ := hx.2; obtain ⟨j0, j1, j2, _, _, _, _, _, _, _, _, jb, jc⟩ := hx.1.cells; go_simp; try with_reducible rfl
    by_cases h3 : n3 = 1
    focus
      have d3 : (n3 == 1) = true := beq_iff_eq.2 h3
      obtain ⟨cv, hcv⟩ : ∃ v, cellAtV S key n2 = v := ⟨_, rfl⟩
      have AD : Hid (cellAtC S key n2 = 0 ∧ cellAtV S key n2 = cv) := ⟨AC.out h3, hcv⟩
      clear h3 hcv
      refine tkH 25 ?_ hS (fun wx hx => ?_) ?_; rotate_left
      · obtain ⟨⟨m0, m1, m2, m3⟩, _⟩ := hx.2; obtain ⟨j0, j1, j2, _, _, _, _, _, _, _, _, jb, jc⟩ := hx.1.cells; go_simp; try with_reducible rfl
      refine tkH 26 ?_ hS (fun wx hx => ?_) ?_; rotate_left
      · obtain ⟨⟨m0, m1, m2, m3⟩, _⟩ := hx.2; obtain ⟨j0, j1, j2, _, _, _, _, _, _, _, _, jb, jc⟩ := hx.1.cells; go_simp; try with_reducible rfl
      refine tkH 27 ?_ hS (fun wx hx => ?_) ?_; rotate_left
      · obtain ⟨⟨m0, m1, m2, m3⟩, _⟩ := hx.2; obtain ⟨j0, j1, j2, _, _, _, _, _, _, _, _, jb, jc⟩ := hx.1.cells; go_simp; try with_reducible rfl
      try simp only [Act.put, List.getElem_toArray, List.getElem_cons_zero, List.getElem_cons_succ, List.setIfInBounds_toArray, List.set_cons_succ, List.set_cons_zero]
      refine tkH 28 ?_ hS (fun wx hx => ?_) ?_; rotate_left
      · obtain ⟨⟨m0, m1, m2, m3⟩, _⟩ := hx.2; obtain ⟨j0, j1, j2, _, _, _, _, _, _, _, _, jb, jc⟩ := hx.1.cells; go_simp; try with_reducible rfl
      refine tkH 29 ?_ hS (fun wx hx => ?_) ?_; rotate_left
      · obtain ⟨⟨m0, m1, m2, m3⟩, _⟩ := hx.2; obtain ⟨j0, j1, j2, _, _, _, _, _, _, _, _, jb, jc⟩ := hx.1.cells; go_simp; try with_reducible rfl
      refine tkH 30 ?_ hS (fun wx hx => ?_) ?_; rotate_left
      · obtain ⟨⟨m0, m1, m2, m3⟩, _⟩ := hx.2; obtain ⟨j0, j1, j2, _, _, _, _, _, _, _, _, jb, jc⟩ := hx.1.cells; go_simp; try with_reducible rfl
      refine rdH 31 (fun K hK => ?_)
      go_simp
      go_wp2_with fail
      refine (implCellAt_ans S _ _ _ key n2 0 cv 0 _ hS.1.st (fun _ => WF.out) AD.out).mono ?_
      rintro e z2 ⟨rfl, q⟩
      go_wp2_with fail
      refine hK.out _ _ ⟨hS.1.later q, hS.2.later q⟩ (fun hS => ?_)
      clear hK K q
      refine tkH 32 ?_ hS (fun wx hx => ?_) ?_; rotate_left
      · obtain ⟨⟨m0, m1, m2, m3⟩, _⟩ := hx.2; obtain ⟨j0, j1, j2, _, _, _, _, _, _, _, _, jb, jc⟩ := hx.1.cells; go_simp; try with_reducible rfl
      refine tkH 33 ?_ hS (fun wx hx => ?_) ?_; rotate_left
      · obtain ⟨⟨m0, m1, m2, m3⟩, _⟩ := hx.2; obtain ⟨j0, j1, j2, _, _, _, _, _, _, _, _, jb, jc⟩ := hx.1.cells; go_simp; try with_reducible rfl
    rotate_left
    focus
      have d3 : (n3 == 1) = false := beq_eq_false_iff_ne.2 h3
      clear h3
      refine tkH 25 ?_ hS (fun wx hx => ?_) ?_; rotate_left
      · obtain ⟨⟨m0, m1, m2, m3⟩, _⟩ := hx.2; obtain ⟨j0, j1, j2, _, _, _, _, _, _, _, _, jb, jc⟩ := hx.1.cells; go_simp; try with_reducible rfl
      refine tkH 26 ?_ hS (fun wx hx => ?_) ?_; rotate_left
      · obtain ⟨⟨m0, m1, m2, m3⟩, _⟩ := hx.2; obtain ⟨j0, j1, j2, _, _, _, _, _, _, _, _, jb, jc⟩ := hx.1.cells; go_simp; try with_reducible rfl
      refine noH 27 hS ?_
      refine noH 28 hS ?_
      refine noH 29 hS ?_
      try simp only [Act.put, List.getElem_toArray, List.getElem_cons_zero, List.getElem_cons_succ, List.setIfInBounds_toArray, List.set_cons_succ, List.set_cons_zero]
      refine noH 30 hS ?_
      refine noH 31 hS ?_
      refine noH 32 hS ?_
      try simp only [Act.put, List.getElem_toArray, List.getElem_cons_zero, List.getElem_cons_succ, List.setIfInBounds_toArray, List.set_cons_succ, List.set_cons_zero]
      refine noH 33 hS ?_
    rotate_left
    all_goals
      refine tkH 34 ?_ hS (fun wx hx => ?_) ?_; rotate_left
      · obtain ⟨⟨m0, m1, m2, m3⟩, _⟩ := hx.2; obtain ⟨j0, j1, j2, _, _, _, _, _, _, _, _, jb, jc⟩ := hx.1.cells; go_simp; try with_reducible rfl
      refine tkH 35 ?_ hS (fun wx hx => ?_) ?_; rotate_left
      · obtain ⟨⟨m0, m1, m2, m3⟩, _⟩ := hx.2; obtain ⟨j0, j1, j2, _, _, _, _, _, _, _, _, jb, jc⟩ := hx.1.cells; go_simp; try with_reducible rfl
      refine tkH 36 ?_ hS (fun wx hx => ?_) ?_; rotate_left
      · obtain ⟨⟨m0, m1, m2, m3⟩, _⟩ := hx.2; obtain ⟨j0, j1, j2, _, _, _, _, _, _, _, _, jb, jc⟩ := hx.1.cells; go_simp; try with_reducible rfl
      try simp only [Act.put, List.getElem_toArray, List.getElem_cons_zero, List.getElem_cons_succ, List.setIfInBounds_toArray, List.set_cons_succ, List.set_cons_zero]
      refine tkH 37 ?_ hS (fun wx hx => ?_) ?_; rotate_left
      · obtain ⟨⟨m0, m1, m2, m3⟩, _⟩ := hx.2; obtain ⟨j0, j1, j2, _, _, _, _, _, _, _, _, jb, jc⟩ := hx.1.cells; go_simp; try with_reducible rfl
      refine tkH 38 ?_ hS (fun wx hx => ?_) ?_; rotate_left
      · obtain ⟨⟨m0, m1, m2, m3⟩, _⟩ := hx.2; obtain ⟨j0, j1, j2, _, _, _, _, _, _, _, _, jb, jc⟩ := hx.1.cells; go_simp; try with_reducible rfl
      refine tkH 39 ?_ hS (fun wx hx => ?_) ?_; rotate_left
      · obtain ⟨⟨m0, m1, m2, m3⟩, _⟩ := hx.2; obtain ⟨j0, j1, j2, _, _, _, _, _, _, _, _, jb, jc⟩ := hx.1.cells; go_simp; try with_reducible rfl
      try simp only [Act.put, List.getElem_toArray, List.getElem_cons_zero, List.getElem_cons_succ, List.setIfInBounds_toArray, List.set_cons_succ, List.set_cons_zero]
      refine tkH 40 ?_ hS (fun wx hx => ?_) ?_; rotate_left
      · obtain ⟨⟨m0, m1, m2, m3⟩, _⟩ := hx.2; obtain ⟨j0, j1, j2, _, _, _, _, _, _, _, _, jb, jc⟩ := hx.1.cells; go_simp; try with_reducible rfl
      refine wpAnyH_done (by kernel_rfl) ?_ _
      have HE := hid_mkC hS.1
      clear hS f0 f1 f2
      go_simp
      go_wp2_with fail
      go_meet
      case rel => exact ⟨rfl, HE⟩
  case rest =>
  clear HE
  obtain ⟨rfl, HE⟩ := hcut
  go_upto_region 15 with fail
  have hW : c7 ≠ 0 ∨ ∃ j, writeIs S.k key ts j ∧ c7 = 0 ∧ n7 = 1 ∧ F7 = fun p => S.k (j * 4 + p) := by
    rcases A7.out with ⟨h0, h1, _⟩ | ⟨_, _, h1, _⟩ | ⟨hz, j, hj, hf, h1, h2, h3⟩
    · exact Or.inl (fun q => h0 (h1.symm.trans q))
    · exact Or.inl (by rw [h1]; decide)
    · exact Or.inr ⟨j, hf.2.1, h1, h2, h3⟩
  have hL : c9 ≠ 0 ∨ ∃ l, lockIs S.l key l ∧ c9 = 0 ∧ n9 = 1 ∧ F9 = fun p => S.l (l * 5 + p) := by
    rcases A9.out with ⟨h0, h1, _⟩ | ⟨_, _, h1, _⟩ | ⟨hz, l, hl, hp, _, h1, h2, h3⟩
    · exact Or.inl (fun q => h0 (h1.symm.trans q))
    · exact Or.inl (by rw [h1]; decide)
    · exact Or.inr ⟨l, hp, h1, h2, h3⟩
  clear A6 A7 A9
  rcases hW with hc7 | ⟨j, hf, rfl, rfl, rfl⟩
  focus
    have d7 : (c7 != 0) = true := bne_iff_ne.2 hc7
    clear hc7
    rcases hL with hc9 | ⟨l, hp, rfl, rfl, rfl⟩
    focus
      have d9 : (c9 != 0) = true := bne_iff_ne.2 hc9
      clear hc9
      have hS0 : (fun x => EnvF w b0 b6 b7 b8 b9 b10 S (.slice a0 S.nc c0) (.slice a1 S.nl c1) (.slice a2 S.nw c2) c6 n6 F6 (.slice g6 n6 p6) c7 n7 F7 (.slice g7 n7 p7) c8 d8 c9 n9 F9 (.slice g9 n9 p9) c10 d10 x ∧ Cel x b0 0 (.slice a0 S.nc c0) ∧ Cel x b0 0 (.slice a0 S.nc c0) ∧ Cel x b0 0 (.slice a0 S.nc c0)) wc := ⟨HE.out, ⟨HE.out.box.1.1, HE.out.box.lt⟩, ⟨HE.out.box.1.1, HE.out.box.lt⟩, ⟨HE.out.box.1.1, HE.out.box.lt⟩⟩
      have hS0 : (fun x => EnvF w b0 b6 b7 b8 b9 b10 S (.slice a0 S.nc c0) (.slice a1 S.nl c1) (.slice a2 S.nw c2) c6 n6 F6 (.slice g6 n6 p6) c7 n7 F7 (.slice g7 n7 p7) c8 d8 c9 n9 F9 (.slice g9 n9 p9) c10 d10 x ∧ Cel x b0 0 (.slice a0 S.nc c0) ∧ Cel x b0 0 (.slice a0 S.nc c0) ∧ Cel x b0 0 (.slice a0 S.nc c0)) wc.drew := ⟨hS0.1.later (Below.drew (Below.refl _ _)), hS0.2.1.later (Below.drew (Below.refl _ _)), hS0.2.2.1.later (Below.drew (Below.refl _ _)), hS0.2.2.2.later (Below.drew (Below.refl _ _))⟩
      have f2 := field_ir1
      refine wp_region_held_drew (S := fun x => EnvF w b0 b6 b7 b8 b9 b10 S (.slice a0 S.nc c0) (.slice a1 S.nl c1) (.slice a2 S.nw c2) c6 n6 F6 (.slice g6 n6 p6) c7 n7 F7 (.slice g7 n7 p7) c8 d8 c9 n9 F9 (.slice g9 n9 p9) c10 d10 x ∧ Cel x b0 0 (.slice a0 S.nc c0) ∧ Cel x b0 0 (.slice a0 S.nc c0) ∧ Cel x b0 0 (.slice a0 S.nc c0)) (by kernel_rfl) hS0 (fun hS => ?_)
      clear hS0 HE
      generalize wc.drew = z0 at hS ⊢
      refine tkH 0 ?_ hS (fun wx hx => ?_) ?_; rotate_left
      · obtain ⟨j0, j1, j2, j3, j4, j5, j6, j7, j8, j9, ja, jb⟩ := cel15 hx; go_simp; try with_reducible rfl
      refine tkH 1 ?_ hS (fun wx hx => ?_) ?_; rotate_left
      · obtain ⟨j0, j1, j2, j3, j4, j5, j6, j7, j8, j9, ja, jb⟩ := cel15 hx; go_simp; try with_reducible rfl
      try simp only [Act.put, List.getElem_toArray, List.getElem_cons_zero, List.getElem_cons_succ, List.setIfInBounds_toArray, List.set_cons_succ, List.set_cons_zero]
      refine tkH 2 ?_ hS (fun wx hx => ?_) ?_; rotate_left
      · obtain ⟨j0, j1, j2, j3, j4, j5, j6, j7, j8, j9, ja, jb⟩ := cel15 hx; go_simp; try with_reducible rfl
      refine tkH 3 ?_ hS (fun wx hx => ?_) ?_; rotate_left
      · obtain ⟨j0, j1, j2, j3, j4, j5, j6, j7, j8, j9, ja, jb⟩ := cel15 hx; go_simp; try with_reducible rfl
      refine noH 4 hS ?_
      try simp only [Act.put, List.getElem_toArray, List.getElem_cons_zero, List.getElem_cons_succ, List.setIfInBounds_toArray, List.set_cons_succ, List.set_cons_zero]
      refine noH 5 hS ?_
      refine noH 6 hS ?_
      refine noH 7 hS ?_
      try simp only [Act.put, List.getElem_toArray, List.getElem_cons_zero, List.getElem_cons_succ, List.setIfInBounds_toArray, List.set_cons_succ, List.set_cons_zero]
      refine noH 8 hS ?_
      refine noH 9 hS ?_
      refine noH 10 hS ?_
      try simp only [Act.put, List.getElem_toArray, List.getElem_cons_zero, List.getElem_cons_succ, List.setIfInBounds_toArray, List.set_cons_succ, List.set_cons_zero]
      refine noH 11 hS ?_
      refine noH 12 hS ?_
      refine noH 13 hS ?_
      try simp only [Act.put, List.getElem_toArray, List.getElem_cons_zero, List.getElem_cons_succ, List.setIfInBounds_toArray, List.set_cons_succ, List.set_cons_zero]
      refine noH 14 hS ?_
      refine noH 15 hS ?_
      refine noH 16 hS ?_
      try simp only [Act.put, List.getElem_toArray, List.getElem_cons_zero, List.getElem_cons_succ, List.setIfInBounds_toArray, List.set_cons_succ, List.set_cons_zero]
      refine noH 17 hS ?_
      refine noH 18 hS ?_
      refine noH 19 hS ?_
      try simp only [Act.put, List.getElem_toArray, List.getElem_cons_zero, List.getElem_cons_succ, List.setIfInBounds_toArray, List.set_cons_succ, List.set_cons_zero]
      refine tkH 20 ?_ hS (fun wx hx => ?_) ?_; rotate_left
      · obtain ⟨j0, j1, j2, j3, j4, j5, j6, j7, j8, j9, ja, jb⟩ := cel15 hx; go_simp; try with_reducible rfl
      refine tkH 21 ?_ hS (fun wx hx => ?_) ?_; rotate_left
      · obtain ⟨j0, j1, j2, j3, j4, j5, j6, j7, j8, j9, ja, jb⟩ := cel15 hx; go_simp; try with_reducible rfl
      refine tkH 22 ?_ hS (fun wx hx => ?_) ?_; rotate_left
      · obtain ⟨j0, j1, j2, j3, j4, j5, j6, j7, j8, j9, ja, jb⟩ := cel15 hx; go_simp; try with_reducible rfl
      try simp only [Act.put, List.getElem_toArray, List.getElem_cons_zero, List.getElem_cons_succ, List.setIfInBounds_toArray, List.set_cons_succ, List.set_cons_zero]
      refine tkH 23 ?_ hS (fun wx hx => ?_) ?_; rotate_left
      · obtain ⟨j0, j1, j2, j3, j4, j5, j6, j7, j8, j9, ja, jb⟩ := cel15 hx; go_simp; try with_reducible rfl
      refine tkH 24 ?_ hS (fun wx hx => ?_) ?_; rotate_left
      · obtain ⟨j0, j1, j2, j3, j4, j5, j6, j7, j8, j9, ja, jb⟩ := cel15 hx; go_simp; try with_reducible rfl
      refine tkH 25 ?_ hS (fun wx hx => ?_) ?_; rotate_left
      · obtain ⟨j0, j1, j2, j3, j4, j5, j6, j7, j8, j9, ja, jb⟩ := cel15 hx; go_simp; try with_reducible rfl
      try simp only [Act.put, List.getElem_toArray, List.getElem_cons_zero, List.getElem_cons_succ, List.setIfInBounds_toArray, List.set_cons_succ, List.set_cons_zero]
      refine noH 26 hS ?_
      refine noH 27 hS ?_
      refine noH 28 hS ?_
      try simp only [Act.put, List.getElem_toArray, List.getElem_cons_zero, List.getElem_cons_succ, List.setIfInBounds_toArray, List.set_cons_succ, List.set_cons_zero]
      refine noH 29 hS ?_
      refine noH 30 hS ?_
      refine noH 31 hS ?_
      try simp only [Act.put, List.getElem_toArray, List.getElem_cons_zero, List.getElem_cons_succ, List.setIfInBounds_toArray, List.set_cons_succ, List.set_cons_zero]
      refine noH 32 hS ?_
    rotate_left
    focus
      obtain ⟨gl, ol, rfl, _, hgl, l0, l1, l2, l3, l4⟩ := HE.out.r9.at5 (k := 0) (by decide)
      simp only [Nat.zero_mul, Nat.add_zero] at l0 l1 l2 l3 l4
      try simp only [Nat.zero_add] at l0 l1 l2 l3 l4
      rw [show S.l (l * 5) = key from hp] at l0
      clear hp
      have hS0 : (fun x => EnvF w b0 b6 b7 b8 b9 b10 S (.slice a0 S.nc c0) (.slice a1 S.nl c1) (.slice a2 S.nw c2) c6 n6 F6 (.slice g6 n6 p6) c7 n7 F7 (.slice g7 n7 p7) c8 d8 0 1 (fun p => S.l (l * 5 + p)) (.slice (some ⟨gl, ol, none⟩) 1 p9) c10 d10 x ∧ Cel x b0 0 (.slice a0 S.nc c0) ∧ Cel x b0 0 (.slice a0 S.nc c0) ∧ Cel x gl ol (.int .i64 key)) wc := ⟨HE.out, ⟨HE.out.box.1.1, HE.out.box.lt⟩, ⟨HE.out.box.1.1, HE.out.box.lt⟩, ⟨l0, hgl⟩⟩
      have hS0 : (fun x => EnvF w b0 b6 b7 b8 b9 b10 S (.slice a0 S.nc c0) (.slice a1 S.nl c1) (.slice a2 S.nw c2) c6 n6 F6 (.slice g6 n6 p6) c7 n7 F7 (.slice g7 n7 p7) c8 d8 0 1 (fun p => S.l (l * 5 + p)) (.slice (some ⟨gl, ol, none⟩) 1 p9) c10 d10 x ∧ Cel x b0 0 (.slice a0 S.nc c0) ∧ Cel x b0 0 (.slice a0 S.nc c0) ∧ Cel x gl ol (.int .i64 key)) wc.drew := ⟨hS0.1.later (Below.drew (Below.refl _ _)), hS0.2.1.later (Below.drew (Below.refl _ _)), hS0.2.2.1.later (Below.drew (Below.refl _ _)), hS0.2.2.2.later (Below.drew (Below.refl _ _))⟩
      have f2 := field_ir1
      clear l0 l1 l2 l3 l4 hgl
      refine wp_region_held_drew (S := fun x => EnvF w b0 b6 b7 b8 b9 b10 S (.slice a0 S.nc c0) (.slice a1 S.nl c1) (.slice a2 S.nw c2) c6 n6 F6 (.slice g6 n6 p6) c7 n7 F7 (.slice g7 n7 p7) c8 d8 0 1 (fun p => S.l (l * 5 + p)) (.slice (some ⟨gl, ol, none⟩) 1 p9) c10 d10 x ∧ Cel x b0 0 (.slice a0 S.nc c0) ∧ Cel x b0 0 (.slice a0 S.nc c0) ∧ Cel x gl ol (.int .i64 key)) (by kernel_rfl) hS0 (fun hS => ?_)
      clear hS0 HE
      generalize wc.drew = z0 at hS ⊢
      refine tkH 0 ?_ hS (fun wx hx => ?_) ?_; rotate_left
      · obtain ⟨j0, j1, j2, j3, j4, j5, j6, j7, j8, j9, ja, jb⟩ := cel15 hx; go_simp; try with_reducible rfl
      refine tkH 1 ?_ hS (fun wx hx => ?_) ?_; rotate_left
      · obtain ⟨j0, j1, j2, j3, j4, j5, j6, j7, j8, j9, ja, jb⟩ := cel15 hx; go_simp; try with_reducible rfl
      try simp only [Act.put, List.getElem_toArray, List.getElem_cons_zero, List.getElem_cons_succ, List.setIfInBounds_toArray, List.set_cons_succ, List.set_cons_zero]
      refine tkH 2 ?_ hS (fun wx hx => ?_) ?_; rotate_left
      · obtain ⟨j0, j1, j2, j3, j4, j5, j6, j7, j8, j9, ja, jb⟩ := cel15 hx; go_simp; try with_reducible rfl
      refine tkH 3 ?_ hS (fun wx hx => ?_) ?_; rotate_left
      · obtain ⟨j0, j1, j2, j3, j4, j5, j6, j7, j8, j9, ja, jb⟩ := cel15 hx; go_simp; try with_reducible rfl
      refine noH 4 hS ?_
      try simp only [Act.put, List.getElem_toArray, List.getElem_cons_zero, List.getElem_cons_succ, List.setIfInBounds_toArray, List.set_cons_succ, List.set_cons_zero]
      refine noH 5 hS ?_
      refine noH 6 hS ?_
      refine noH 7 hS ?_
      try simp only [Act.put, List.getElem_toArray, List.getElem_cons_zero, List.getElem_cons_succ, List.setIfInBounds_toArray, List.set_cons_succ, List.set_cons_zero]
      refine noH 8 hS ?_
      refine noH 9 hS ?_
      refine noH 10 hS ?_
      try simp only [Act.put, List.getElem_toArray, List.getElem_cons_zero, List.getElem_cons_succ, List.setIfInBounds_toArray, List.set_cons_succ, List.set_cons_zero]
      refine noH 11 hS ?_
      refine noH 12 hS ?_
      refine noH 13 hS ?_
      try simp only [Act.put, List.getElem_toArray, List.getElem_cons_zero, List.getElem_cons_succ, List.setIfInBounds_toArray, List.set_cons_succ, List.set_cons_zero]
      refine noH 14 hS ?_
      refine noH 15 hS ?_
      refine noH 16 hS ?_
      try simp only [Act.put, List.getElem_toArray, List.getElem_cons_zero, List.getElem_cons_succ, List.setIfInBounds_toArray, List.set_cons_succ, List.set_cons_zero]
      refine noH 17 hS ?_
      refine noH 18 hS ?_
      refine noH 19 hS ?_
      try simp only [Act.put, List.getElem_toArray, List.getElem_cons_zero, List.getElem_cons_succ, List.setIfInBounds_toArray, List.set_cons_succ, List.set_cons_zero]
      refine tkH 20 ?_ hS (fun wx hx => ?_) ?_; rotate_left
      · obtain ⟨j0, j1, j2, j3, j4, j5, j6, j7, j8, j9, ja, jb⟩ := cel15 hx; go_simp; try with_reducible rfl
      refine tkH 21 ?_ hS (fun wx hx => ?_) ?_; rotate_left
      · obtain ⟨j0, j1, j2, j3, j4, j5, j6, j7, j8, j9, ja, jb⟩ := cel15 hx; go_simp; try with_reducible rfl
      refine tkH 22 ?_ hS (fun wx hx => ?_) ?_; rotate_left
      · obtain ⟨j0, j1, j2, j3, j4, j5, j6, j7, j8, j9, ja, jb⟩ := cel15 hx; go_simp; try with_reducible rfl
      try simp only [Act.put, List.getElem_toArray, List.getElem_cons_zero, List.getElem_cons_succ, List.setIfInBounds_toArray, List.set_cons_succ, List.set_cons_zero]
      refine tkH 23 ?_ hS (fun wx hx => ?_) ?_; rotate_left
      · obtain ⟨j0, j1, j2, j3, j4, j5, j6, j7, j8, j9, ja, jb⟩ := cel15 hx; go_simp; try with_reducible rfl
      refine tkH 24 ?_ hS (fun wx hx => ?_) ?_; rotate_left
      · obtain ⟨j0, j1, j2, j3, j4, j5, j6, j7, j8, j9, ja, jb⟩ := cel15 hx; go_simp; try with_reducible rfl
      refine tkH 25 ?_ hS (fun wx hx => ?_) ?_; rotate_left
      · obtain ⟨j0, j1, j2, j3, j4, j5, j6, j7, j8, j9, ja, jb⟩ := cel15 hx; go_simp; try with_reducible rfl
      try simp only [Act.put, List.getElem_toArray, List.getElem_cons_zero, List.getElem_cons_succ, List.setIfInBounds_toArray, List.set_cons_succ, List.set_cons_zero]
      refine tkH 26 ?_ hS (fun wx hx => ?_) ?_; rotate_left
      · obtain ⟨j0, j1, j2, j3, j4, j5, j6, j7, j8, j9, ja, jb⟩ := cel15 hx; go_simp; try with_reducible rfl
      refine tkH 27 ?_ hS (fun wx hx => ?_) ?_; rotate_left
      · obtain ⟨j0, j1, j2, j3, j4, j5, j6, j7, j8, j9, ja, jb⟩ := cel15 hx; go_simp; try with_reducible rfl
      refine tkH 28 ?_ hS (fun wx hx => ?_) ?_; rotate_left
      · obtain ⟨j0, j1, j2, j3, j4, j5, j6, j7, j8, j9, ja, jb⟩ := cel15 hx; go_simp; try with_reducible rfl
      try simp only [Act.put, List.getElem_toArray, List.getElem_cons_zero, List.getElem_cons_succ, List.setIfInBounds_toArray, List.set_cons_succ, List.set_cons_zero]
      refine tkH 29 ?_ hS (fun wx hx => ?_) ?_; rotate_left
      · obtain ⟨j0, j1, j2, j3, j4, j5, j6, j7, j8, j9, ja, jb⟩ := cel15 hx; go_simp; try with_reducible rfl
      refine tkH 30 ?_ hS (fun wx hx => ?_) ?_; rotate_left
      · obtain ⟨j0, j1, j2, j3, j4, j5, j6, j7, j8, j9, ja, jb⟩ := cel15 hx; go_simp; try with_reducible rfl
      refine tkH 31 ?_ hS (fun wx hx => ?_) ?_; rotate_left
      · obtain ⟨j0, j1, j2, j3, j4, j5, j6, j7, j8, j9, ja, jb⟩ := cel15 hx; go_simp; try with_reducible rfl
      try simp only [Act.put, List.getElem_toArray, List.getElem_cons_zero, List.getElem_cons_succ, List.setIfInBounds_toArray, List.set_cons_succ, List.set_cons_zero]
      refine tkH 32 ?_ hS (fun wx hx => ?_) ?_; rotate_left
      · obtain ⟨j0, j1, j2, j3, j4, j5, j6, j7, j8, j9, ja, jb⟩ := cel15 hx; go_simp; try with_reducible rfl
    rotate_left
  rotate_left 2
  focus
    obtain ⟨gw, ow, rfl, _, hgw, w0, w1, w2, w3⟩ := HE.out.r7.at4 (k := 0) (by decide)
    simp only [Nat.zero_mul, Nat.add_zero] at w0 w1 w2 w3
    try simp only [Nat.zero_add] at w0 w1 w2 w3
    rw [hf.1] at w0
    rw [hf.2] at w2
    clear hf
    rcases hL with hc9 | ⟨l, hp, rfl, rfl, rfl⟩
    focus
      have d9 : (c9 != 0) = true := bne_iff_ne.2 hc9
      clear hc9
      have hS0 : (fun x => EnvF w b0 b6 b7 b8 b9 b10 S (.slice a0 S.nc c0) (.slice a1 S.nl c1) (.slice a2 S.nw c2) c6 n6 F6 (.slice g6 n6 p6) 0 1 (fun p => S.k (j * 4 + p)) (.slice (some ⟨gw, ow, none⟩) 1 p7) c8 d8 c9 n9 F9 (.slice g9 n9 p9) c10 d10 x ∧ Cel x gw ow (.int .i64 key) ∧ Cel x gw (ow + 2) (.int .i64 ts) ∧ Cel x b0 0 (.slice a0 S.nc c0)) wc := ⟨HE.out, ⟨w0, hgw⟩, ⟨w2, hgw⟩, ⟨HE.out.box.1.1, HE.out.box.lt⟩⟩
      have hS0 : (fun x => EnvF w b0 b6 b7 b8 b9 b10 S (.slice a0 S.nc c0) (.slice a1 S.nl c1) (.slice a2 S.nw c2) c6 n6 F6 (.slice g6 n6 p6) 0 1 (fun p => S.k (j * 4 + p)) (.slice (some ⟨gw, ow, none⟩) 1 p7) c8 d8 c9 n9 F9 (.slice g9 n9 p9) c10 d10 x ∧ Cel x gw ow (.int .i64 key) ∧ Cel x gw (ow + 2) (.int .i64 ts) ∧ Cel x b0 0 (.slice a0 S.nc c0)) wc.drew := ⟨hS0.1.later (Below.drew (Below.refl _ _)), hS0.2.1.later (Below.drew (Below.refl _ _)), hS0.2.2.1.later (Below.drew (Below.refl _ _)), hS0.2.2.2.later (Below.drew (Below.refl _ _))⟩
      have f2 := field_ir1
      clear w0 w1 w2 w3 hgw 
      refine wp_region_held_drew (S := fun x => EnvF w b0 b6 b7 b8 b9 b10 S (.slice a0 S.nc c0) (.slice a1 S.nl c1) (.slice a2 S.nw c2) c6 n6 F6 (.slice g6 n6 p6) 0 1 (fun p => S.k (j * 4 + p)) (.slice (some ⟨gw, ow, none⟩) 1 p7) c8 d8 c9 n9 F9 (.slice g9 n9 p9) c10 d10 x ∧ Cel x gw ow (.int .i64 key) ∧ Cel x gw (ow + 2) (.int .i64 ts) ∧ Cel x b0 0 (.slice a0 S.nc c0)) (by kernel_rfl) hS0 (fun hS => ?_)
      clear hS0 HE
      generalize wc.drew = z0 at hS ⊢
      refine tkH 0 ?_ hS (fun wx hx => ?_) ?_; rotate_left
      · obtain ⟨j0, j1, j2, j3, j4, j5, j6, j7, j8, j9, ja, jb⟩ := cel15 hx; go_simp; try with_reducible rfl
      refine tkH 1 ?_ hS (fun wx hx => ?_) ?_; rotate_left
      · obtain ⟨j0, j1, j2, j3, j4, j5, j6, j7, j8, j9, ja, jb⟩ := cel15 hx; go_simp; try with_reducible rfl
      try simp only [Act.put, List.getElem_toArray, List.getElem_cons_zero, List.getElem_cons_succ, List.setIfInBounds_toArray, List.set_cons_succ, List.set_cons_zero]
      refine tkH 2 ?_ hS (fun wx hx => ?_) ?_; rotate_left
      · obtain ⟨j0, j1, j2, j3, j4, j5, j6, j7, j8, j9, ja, jb⟩ := cel15 hx; go_simp; try with_reducible rfl
      refine tkH 3 ?_ hS (fun wx hx => ?_) ?_; rotate_left
      · obtain ⟨j0, j1, j2, j3, j4, j5, j6, j7, j8, j9, ja, jb⟩ := cel15 hx; go_simp; try with_reducible rfl
      refine tkH 4 ?_ hS (fun wx hx => ?_) ?_; rotate_left
      · obtain ⟨j0, j1, j2, j3, j4, j5, j6, j7, j8, j9, ja, jb⟩ := cel15 hx; go_simp; try with_reducible rfl
      try simp only [Act.put, List.getElem_toArray, List.getElem_cons_zero, List.getElem_cons_succ, List.setIfInBounds_toArray, List.set_cons_succ, List.set_cons_zero]
      refine tkH 5 ?_ hS (fun wx hx => ?_) ?_; rotate_left
      · obtain ⟨j0, j1, j2, j3, j4, j5, j6, j7, j8, j9, ja, jb⟩ := cel15 hx; go_simp; try with_reducible rfl
      refine tkH 6 ?_ hS (fun wx hx => ?_) ?_; rotate_left
      · obtain ⟨j0, j1, j2, j3, j4, j5, j6, j7, j8, j9, ja, jb⟩ := cel15 hx; go_simp; try with_reducible rfl
      refine tkH 7 ?_ hS (fun wx hx => ?_) ?_; rotate_left
      · obtain ⟨j0, j1, j2, j3, j4, j5, j6, j7, j8, j9, ja, jb⟩ := cel15 hx; go_simp; try with_reducible rfl
      try simp only [Act.put, List.getElem_toArray, List.getElem_cons_zero, List.getElem_cons_succ, List.setIfInBounds_toArray, List.set_cons_succ, List.set_cons_zero]
      refine tkH 8 ?_ hS (fun wx hx => ?_) ?_; rotate_left
      · obtain ⟨j0, j1, j2, j3, j4, j5, j6, j7, j8, j9, ja, jb⟩ := cel15 hx; go_simp; try with_reducible rfl
      refine tkH 9 ?_ hS (fun wx hx => ?_) ?_; rotate_left
      · obtain ⟨j0, j1, j2, j3, j4, j5, j6, j7, j8, j9, ja, jb⟩ := cel15 hx; go_simp; try with_reducible rfl
      refine tkH 10 ?_ hS (fun wx hx => ?_) ?_; rotate_left
      · obtain ⟨j0, j1, j2, j3, j4, j5, j6, j7, j8, j9, ja, jb⟩ := cel15 hx; go_simp; try with_reducible rfl
      try simp only [Act.put, List.getElem_toArray, List.getElem_cons_zero, List.getElem_cons_succ, List.setIfInBounds_toArray, List.set_cons_succ, List.set_cons_zero]
      refine tkH 11 ?_ hS (fun wx hx => ?_) ?_; rotate_left
      · obtain ⟨j0, j1, j2, j3, j4, j5, j6, j7, j8, j9, ja, jb⟩ := cel15 hx; go_simp; try with_reducible rfl
      refine tkH 12 ?_ hS (fun wx hx => ?_) ?_; rotate_left
      · obtain ⟨j0, j1, j2, j3, j4, j5, j6, j7, j8, j9, ja, jb⟩ := cel15 hx; go_simp; try with_reducible rfl
      refine tkH 13 ?_ hS (fun wx hx => ?_) ?_; rotate_left
      · obtain ⟨j0, j1, j2, j3, j4, j5, j6, j7, j8, j9, ja, jb⟩ := cel15 hx; go_simp; try with_reducible rfl
      try simp only [Act.put, List.getElem_toArray, List.getElem_cons_zero, List.getElem_cons_succ, List.setIfInBounds_toArray, List.set_cons_succ, List.set_cons_zero]
      refine tkH 14 ?_ hS (fun wx hx => ?_) ?_; rotate_left
      · obtain ⟨j0, j1, j2, j3, j4, j5, j6, j7, j8, j9, ja, jb⟩ := cel15 hx; go_simp; try with_reducible rfl
      refine tkH 15 ?_ hS (fun wx hx => ?_) ?_; rotate_left
      · obtain ⟨j0, j1, j2, j3, j4, j5, j6, j7, j8, j9, ja, jb⟩ := cel15 hx; go_simp; try with_reducible rfl
      refine tkH 16 ?_ hS (fun wx hx => ?_) ?_; rotate_left
      · obtain ⟨j0, j1, j2, j3, j4, j5, j6, j7, j8, j9, ja, jb⟩ := cel15 hx; go_simp; try with_reducible rfl
      try simp only [Act.put, List.getElem_toArray, List.getElem_cons_zero, List.getElem_cons_succ, List.setIfInBounds_toArray, List.set_cons_succ, List.set_cons_zero]
      refine tkH 17 ?_ hS (fun wx hx => ?_) ?_; rotate_left
      · obtain ⟨j0, j1, j2, j3, j4, j5, j6, j7, j8, j9, ja, jb⟩ := cel15 hx; go_simp; try with_reducible rfl
      refine tkH 18 ?_ hS (fun wx hx => ?_) ?_; rotate_left
      · obtain ⟨j0, j1, j2, j3, j4, j5, j6, j7, j8, j9, ja, jb⟩ := cel15 hx; go_simp; try with_reducible rfl
      refine tkH 19 ?_ hS (fun wx hx => ?_) ?_; rotate_left
      · obtain ⟨j0, j1, j2, j3, j4, j5, j6, j7, j8, j9, ja, jb⟩ := cel15 hx; go_simp; try with_reducible rfl
      try simp only [Act.put, List.getElem_toArray, List.getElem_cons_zero, List.getElem_cons_succ, List.setIfInBounds_toArray, List.set_cons_succ, List.set_cons_zero]
      refine tkH 20 ?_ hS (fun wx hx => ?_) ?_; rotate_left
      · obtain ⟨j0, j1, j2, j3, j4, j5, j6, j7, j8, j9, ja, jb⟩ := cel15 hx; go_simp; try with_reducible rfl
      refine tkH 21 ?_ hS (fun wx hx => ?_) ?_; rotate_left
      · obtain ⟨j0, j1, j2, j3, j4, j5, j6, j7, j8, j9, ja, jb⟩ := cel15 hx; go_simp; try with_reducible rfl
      refine tkH 22 ?_ hS (fun wx hx => ?_) ?_; rotate_left
      · obtain ⟨j0, j1, j2, j3, j4, j5, j6, j7, j8, j9, ja, jb⟩ := cel15 hx; go_simp; try with_reducible rfl
      try simp only [Act.put, List.getElem_toArray, List.getElem_cons_zero, List.getElem_cons_succ, List.setIfInBounds_toArray, List.set_cons_succ, List.set_cons_zero]
      refine tkH 23 ?_ hS (fun wx hx => ?_) ?_; rotate_left
      · obtain ⟨j0, j1, j2, j3, j4, j5, j6, j7, j8, j9, ja, jb⟩ := cel15 hx; go_simp; try with_reducible rfl
      refine tkH 24 ?_ hS (fun wx hx => ?_) ?_; rotate_left
      · obtain ⟨j0, j1, j2, j3, j4, j5, j6, j7, j8, j9, ja, jb⟩ := cel15 hx; go_simp; try with_reducible rfl
      refine tkH 25 ?_ hS (fun wx hx => ?_) ?_; rotate_left
      · obtain ⟨j0, j1, j2, j3, j4, j5, j6, j7, j8, j9, ja, jb⟩ := cel15 hx; go_simp; try with_reducible rfl
      try simp only [Act.put, List.getElem_toArray, List.getElem_cons_zero, List.getElem_cons_succ, List.setIfInBounds_toArray, List.set_cons_succ, List.set_cons_zero]
      refine noH 26 hS ?_
      refine noH 27 hS ?_
      refine noH 28 hS ?_
      try simp only [Act.put, List.getElem_toArray, List.getElem_cons_zero, List.getElem_cons_succ, List.setIfInBounds_toArray, List.set_cons_succ, List.set_cons_zero]
      refine noH 29 hS ?_
      refine noH 30 hS ?_
      refine noH 31 hS ?_
      try simp only [Act.put, List.getElem_toArray, List.getElem_cons_zero, List.getElem_cons_succ, List.setIfInBounds_toArray, List.set_cons_succ, List.set_cons_zero]
      refine noH 32 hS ?_
    rotate_left
    focus
      obtain ⟨gl, ol, rfl, _, hgl, l0, l1, l2, l3, l4⟩ := HE.out.r9.at5 (k := 0) (by decide)
      simp only [Nat.zero_mul, Nat.add_zero] at l0 l1 l2 l3 l4
      try simp only [Nat.zero_add] at l0 l1 l2 l3 l4
      rw [show S.l (l * 5) = key from hp] at l0
      clear hp
      have hS0 : (fun x => EnvF w b0 b6 b7 b8 b9 b10 S (.slice a0 S.nc c0) (.slice a1 S.nl c1) (.slice a2 S.nw c2) c6 n6 F6 (.slice g6 n6 p6) 0 1 (fun p => S.k (j * 4 + p)) (.slice (some ⟨gw, ow, none⟩) 1 p7) c8 d8 0 1 (fun p => S.l (l * 5 + p)) (.slice (some ⟨gl, ol, none⟩) 1 p9) c10 d10 x ∧ Cel x gw ow (.int .i64 key) ∧ Cel x gw (ow + 2) (.int .i64 ts) ∧ Cel x gl ol (.int .i64 key)) wc := ⟨HE.out, ⟨w0, hgw⟩, ⟨w2, hgw⟩, ⟨l0, hgl⟩⟩
      have hS0 : (fun x => EnvF w b0 b6 b7 b8 b9 b10 S (.slice a0 S.nc c0) (.slice a1 S.nl c1) (.slice a2 S.nw c2) c6 n6 F6 (.slice g6 n6 p6) 0 1 (fun p => S.k (j * 4 + p)) (.slice (some ⟨gw, ow, none⟩) 1 p7) c8 d8 0 1 (fun p => S.l (l * 5 + p)) (.slice (some ⟨gl, ol, none⟩) 1 p9) c10 d10 x ∧ Cel x gw ow (.int .i64 key) ∧ Cel x gw (ow + 2) (.int .i64 ts) ∧ Cel x gl ol (.int .i64 key)) wc.drew := ⟨hS0.1.later (Below.drew (Below.refl _ _)), hS0.2.1.later (Below.drew (Below.refl _ _)), hS0.2.2.1.later (Below.drew (Below.refl _ _)), hS0.2.2.2.later (Below.drew (Below.refl _ _))⟩
      have f2 := field_ir1
      clear w0 w1 w2 w3 hgw l0 l1 l2 l3 l4 hgl
      refine wp_region_held_drew (S := fun x => EnvF w b0 b6 b7 b8 b9 b10 S (.slice a0 S.nc c0) (.slice a1 S.nl c1) (.slice a2 S.nw c2) c6 n6 F6 (.slice g6 n6 p6) 0 1 (fun p => S.k (j * 4 + p)) (.slice (some ⟨gw, ow, none⟩) 1 p7) c8 d8 0 1 (fun p => S.l (l * 5 + p)) (.slice (some ⟨gl, ol, none⟩) 1 p9) c10 d10 x ∧ Cel x gw ow (.int .i64 key) ∧ Cel x gw (ow + 2) (.int .i64 ts) ∧ Cel x gl ol (.int .i64 key)) (by kernel_rfl) hS0 (fun hS => ?_)
      clear hS0 HE
      generalize wc.drew = z0 at hS ⊢
      refine tkH 0 ?_ hS (fun wx hx => ?_) ?_; rotate_left
      · obtain ⟨j0, j1, j2, j3, j4, j5, j6, j7, j8, j9, ja, jb⟩ := cel15 hx; go_simp; try with_reducible rfl
      refine tkH 1 ?_ hS (fun wx hx => ?_) ?_; rotate_left
      · obtain ⟨j0, j1, j2, j3, j4, j5, j6, j7, j8, j9, ja, jb⟩ := cel15 hx; go_simp; try with_reducible rfl
      try simp only [Act.put, List.getElem_toArray, List.getElem_cons_zero, List.getElem_cons_succ, List.setIfInBounds_toArray, List.set_cons_succ, List.set_cons_zero]
      refine tkH 2 ?_ hS (fun wx hx => ?_) ?_; rotate_left
      · obtain ⟨j0, j1, j2, j3, j4, j5, j6, j7, j8, j9, ja, jb⟩ := cel15 hx; go_simp; try with_reducible rfl
      refine tkH 3 ?_ hS (fun wx hx => ?_) ?_; rotate_left
      · obtain ⟨j0, j1, j2, j3, j4, j5, j6, j7, j8, j9, ja, jb⟩ := cel15 hx; go_simp; try with_reducible rfl
      refine tkH 4 ?_ hS (fun wx hx => ?_) ?_; rotate_left
      · obtain ⟨j0, j1, j2, j3, j4, j5, j6, j7, j8, j9, ja, jb⟩ := cel15 hx; go_simp; try with_reducible rfl
      try simp only [Act.put, List.getElem_toArray, List.getElem_cons_zero, List.getElem_cons_succ, List.setIfInBounds_toArray, List.set_cons_succ, List.set_cons_zero]
      refine tkH 5 ?_ hS (fun wx hx => ?_) ?_; rotate_left
      · obtain ⟨j0, j1, j2, j3, j4, j5, j6, j7, j8, j9, ja, jb⟩ := cel15 hx; go_simp; try with_reducible rfl
      refine tkH 6 ?_ hS (fun wx hx => ?_) ?_; rotate_left
      · obtain ⟨j0, j1, j2, j3, j4, j5, j6, j7, j8, j9, ja, jb⟩ := cel15 hx; go_simp; try with_reducible rfl
      refine tkH 7 ?_ hS (fun wx hx => ?_) ?_; rotate_left
      · obtain ⟨j0, j1, j2, j3, j4, j5, j6, j7, j8, j9, ja, jb⟩ := cel15 hx; go_simp; try with_reducible rfl
      try simp only [Act.put, List.getElem_toArray, List.getElem_cons_zero, List.getElem_cons_succ, List.setIfInBounds_toArray, List.set_cons_succ, List.set_cons_zero]
      refine tkH 8 ?_ hS (fun wx hx => ?_) ?_; rotate_left
      · obtain ⟨j0, j1, j2, j3, j4, j5, j6, j7, j8, j9, ja, jb⟩ := cel15 hx; go_simp; try with_reducible rfl
      refine tkH 9 ?_ hS (fun wx hx => ?_) ?_; rotate_left
      · obtain ⟨j0, j1, j2, j3, j4, j5, j6, j7, j8, j9, ja, jb⟩ := cel15 hx; go_simp; try with_reducible rfl
      refine tkH 10 ?_ hS (fun wx hx => ?_) ?_; rotate_left
      · obtain ⟨j0, j1, j2, j3, j4, j5, j6, j7, j8, j9, ja, jb⟩ := cel15 hx; go_simp; try with_reducible rfl
      try simp only [Act.put, List.getElem_toArray, List.getElem_cons_zero, List.getElem_cons_succ, List.setIfInBounds_toArray, List.set_cons_succ, List.set_cons_zero]
      refine tkH 11 ?_ hS (fun wx hx => ?_) ?_; rotate_left
      · obtain ⟨j0, j1, j2, j3, j4, j5, j6, j7, j8, j9, ja, jb⟩ := cel15 hx; go_simp; try with_reducible rfl
      refine tkH 12 ?_ hS (fun wx hx => ?_) ?_; rotate_left
      · obtain ⟨j0, j1, j2, j3, j4, j5, j6, j7, j8, j9, ja, jb⟩ := cel15 hx; go_simp; try with_reducible rfl
      refine tkH 13 ?_ hS (fun wx hx => ?_) ?_; rotate_left
      · obtain ⟨j0, j1, j2, j3, j4, j5, j6, j7, j8, j9, ja, jb⟩ := cel15 hx; go_simp; try with_reducible rfl
      try simp only [Act.put, List.getElem_toArray, List.getElem_cons_zero, List.getElem_cons_succ, List.setIfInBounds_toArray, List.set_cons_succ, List.set_cons_zero]
      refine tkH 14 ?_ hS (fun wx hx => ?_) ?_; rotate_left
      · obtain ⟨j0, j1, j2, j3, j4, j5, j6, j7, j8, j9, ja, jb⟩ := cel15 hx; go_simp; try with_reducible rfl
      refine tkH 15 ?_ hS (fun wx hx => ?_) ?_; rotate_left
      · obtain ⟨j0, j1, j2, j3, j4, j5, j6, j7, j8, j9, ja, jb⟩ := cel15 hx; go_simp; try with_reducible rfl
      refine tkH 16 ?_ hS (fun wx hx => ?_) ?_; rotate_left
      · obtain ⟨j0, j1, j2, j3, j4, j5, j6, j7, j8, j9, ja, jb⟩ := cel15 hx; go_simp; try with_reducible rfl
      try simp only [Act.put, List.getElem_toArray, List.getElem_cons_zero, List.getElem_cons_succ, List.setIfInBounds_toArray, List.set_cons_succ, List.set_cons_zero]
      refine tkH 17 ?_ hS (fun wx hx => ?_) ?_; rotate_left
      · obtain ⟨j0, j1, j2, j3, j4, j5, j6, j7, j8, j9, ja, jb⟩ := cel15 hx; go_simp; try with_reducible rfl
      refine tkH 18 ?_ hS (fun wx hx => ?_) ?_; rotate_left
      · obtain ⟨j0, j1, j2, j3, j4, j5, j6, j7, j8, j9, ja, jb⟩ := cel15 hx; go_simp; try with_reducible rfl
      refine tkH 19 ?_ hS (fun wx hx => ?_) ?_; rotate_left
      · obtain ⟨j0, j1, j2, j3, j4, j5, j6, j7, j8, j9, ja, jb⟩ := cel15 hx; go_simp; try with_reducible rfl
      try simp only [Act.put, List.getElem_toArray, List.getElem_cons_zero, List.getElem_cons_succ, List.setIfInBounds_toArray, List.set_cons_succ, List.set_cons_zero]
      refine tkH 20 ?_ hS (fun wx hx => ?_) ?_; rotate_left
      · obtain ⟨j0, j1, j2, j3, j4, j5, j6, j7, j8, j9, ja, jb⟩ := cel15 hx; go_simp; try with_reducible rfl
      refine tkH 21 ?_ hS (fun wx hx => ?_) ?_; rotate_left
      · obtain ⟨j0, j1, j2, j3, j4, j5, j6, j7, j8, j9, ja, jb⟩ := cel15 hx; go_simp; try with_reducible rfl
      refine tkH 22 ?_ hS (fun wx hx => ?_) ?_; rotate_left
      · obtain ⟨j0, j1, j2, j3, j4, j5, j6, j7, j8, j9, ja, jb⟩ := cel15 hx; go_simp; try with_reducible rfl
      try simp only [Act.put, List.getElem_toArray, List.getElem_cons_zero, List.getElem_cons_succ, List.setIfInBounds_toArray, List.set_cons_succ, List.set_cons_zero]
      refine tkH 23 ?_ hS (fun wx hx => ?_) ?_; rotate_left
      · obtain ⟨j0, j1, j2, j3, j4, j5, j6, j7, j8, j9, ja, jb⟩ := cel15 hx; go_simp; try with_reducible rfl
      refine tkH 24 ?_ hS (fun wx hx => ?_) ?_; rotate_left
      · obtain ⟨j0, j1, j2, j3, j4, j5, j6, j7, j8, j9, ja, jb⟩ := cel15 hx; go_simp; try with_reducible rfl
      refine tkH 25 ?_ hS (fun wx hx => ?_) ?_; rotate_left
      · obtain ⟨j0, j1, j2, j3, j4, j5, j6, j7, j8, j9, ja, jb⟩ := cel15 hx; go_simp; try with_reducible rfl
      try simp only [Act.put, List.getElem_toArray, List.getElem_cons_zero, List.getElem_cons_succ, List.setIfInBounds_toArray, List.set_cons_succ, List.set_cons_zero]
      refine tkH 26 ?_ hS (fun wx hx => ?_) ?_; rotate_left
      · obtain ⟨j0, j1, j2, j3, j4, j5, j6, j7, j8, j9, ja, jb⟩ := cel15 hx; go_simp; try with_reducible rfl
      refine tkH 27 ?_ hS (fun wx hx => ?_) ?_; rotate_left
      · obtain ⟨j0, j1, j2, j3, j4, j5, j6, j7, j8, j9, ja, jb⟩ := cel15 hx; go_simp; try with_reducible rfl
      refine tkH 28 ?_ hS (fun wx hx => ?_) ?_; rotate_left
      · obtain ⟨j0, j1, j2, j3, j4, j5, j6, j7, j8, j9, ja, jb⟩ := cel15 hx; go_simp; try with_reducible rfl
      try simp only [Act.put, List.getElem_toArray, List.getElem_cons_zero, List.getElem_cons_succ, List.setIfInBounds_toArray, List.set_cons_succ, List.set_cons_zero]
      refine tkH 29 ?_ hS (fun wx hx => ?_) ?_; rotate_left
      · obtain ⟨j0, j1, j2, j3, j4, j5, j6, j7, j8, j9, ja, jb⟩ := cel15 hx; go_simp; try with_reducible rfl
      refine tkH 30 ?_ hS (fun wx hx => ?_) ?_; rotate_left
      · obtain ⟨j0, j1, j2, j3, j4, j5, j6, j7, j8, j9, ja, jb⟩ := cel15 hx; go_simp; try with_reducible rfl
      refine tkH 31 ?_ hS (fun wx hx => ?_) ?_; rotate_left
      · obtain ⟨j0, j1, j2, j3, j4, j5, j6, j7, j8, j9, ja, jb⟩ := cel15 hx; go_simp; try with_reducible rfl
      try simp only [Act.put, List.getElem_toArray, List.getElem_cons_zero, List.getElem_cons_succ, List.setIfInBounds_toArray, List.set_cons_succ, List.set_cons_zero]
      refine tkH 32 ?_ hS (fun wx hx => ?_) ?_; rotate_left
      · obtain ⟨j0, j1, j2, j3, j4, j5, j6, j7, j8, j9, ja, jb⟩ := cel15 hx; go_simp; try with_reducible rfl
    rotate_left
  rotate_left 2
  all_goals
    refine tkH 33 ?_ hS (fun wx hx => ?_) ?_; rotate_left
    · obtain ⟨j0, j1, j2, j3, j4, j5, j6, j7, j8, j9, ja, jb⟩ := cel15 hx; go_simp; try with_reducible rfl
    refine tkH 34 ?_ hS (fun wx hx => ?_) ?_; rotate_left
    · obtain ⟨j0, j1, j2, j3, j4, j5, j6, j7, j8, j9, ja, jb⟩ := cel15 hx; go_simp; try with_reducible rfl
    try simp only [Act.put, List.getElem_toArray, List.getElem_cons_zero, List.getElem_cons_succ, List.setIfInBounds_toArray, List.set_cons_succ, List.set_cons_zero]
    refine tkH 35 ?_ hS (fun wx hx => ?_) ?_; rotate_left
    · obtain ⟨j0, j1, j2, j3, j4, j5, j6, j7, j8, j9, ja, jb⟩ := cel15 hx; go_simp; try with_reducible rfl
    refine tkH 36 ?_ hS (fun wx hx => ?_) ?_; rotate_left
    · obtain ⟨j0, j1, j2, j3, j4, j5, j6, j7, j8, j9, ja, jb⟩ := cel15 hx; go_simp; try with_reducible rfl
    refine tkH 37 ?_ hS (fun wx hx => ?_) ?_; rotate_left
    · obtain ⟨j0, j1, j2, j3, j4, j5, j6, j7, j8, j9, ja, jb⟩ := cel15 hx; go_simp; try with_reducible rfl
    try simp only [Act.put, List.getElem_toArray, List.getElem_cons_zero, List.getElem_cons_succ, List.setIfInBounds_toArray, List.set_cons_succ, List.set_cons_zero]
    refine tkH 38 ?_ hS (fun wx hx => ?_) ?_; rotate_left
    · obtain ⟨j0, j1, j2, j3, j4, j5, j6, j7, j8, j9, ja, jb⟩ := cel15 hx; go_simp; try with_reducible rfl
    refine tkH 39 ?_ hS (fun wx hx => ?_) ?_; rotate_left
    · obtain ⟨j0, j1, j2, j3, j4, j5, j6, j7, j8, j9, ja, jb⟩ := cel15 hx; go_simp; try with_reducible rfl
    refine tkH 40 ?_ hS (fun wx hx => ?_) ?_; rotate_left
    · obtain ⟨j0, j1, j2, j3, j4, j5, j6, j7, j8, j9, ja, jb⟩ := cel15 hx; go_simp; try with_reducible rfl
    refine rdH 41 (fun K hK => ?_)
    go_simp
    go_wp2_with fail
    refine (specCellAt_ans S _ _ _ key ts c8 d8 0 _ hS.1.st A8.out).mono ?_
    rintro e z1 ⟨rfl, q⟩
    go_wp2_with fail
    refine hK.out _ _ ⟨hS.1.later q, hS.2.1.later q, hS.2.2.1.later q, hS.2.2.2.later q⟩ (fun hS => ?_)
    clear hK K q
    refine tkH 42 ?_ hS (fun wx hx => ?_) ?_; rotate_left
    · obtain ⟨j0, j1, j2, j3, j4, j5, j6, j7, j8, j9, ja, jb⟩ := cel15 hx; go_simp; try with_reducible rfl
    refine tkH 43 ?_ hS (fun wx hx => ?_) ?_; rotate_left
    · obtain ⟨j0, j1, j2, j3, j4, j5, j6, j7, j8, j9, ja, jb⟩ := cel15 hx; go_simp; try with_reducible rfl
    try simp only [Act.put, List.getElem_toArray, List.getElem_cons_zero, List.getElem_cons_succ, List.setIfInBounds_toArray, List.set_cons_succ, List.set_cons_zero]
    refine tkH 44 ?_ hS (fun wx hx => ?_) ?_; rotate_left
    · obtain ⟨j0, j1, j2, j3, j4, j5, j6, j7, j8, j9, ja, jb⟩ := cel15 hx; go_simp; try with_reducible rfl
    refine tkH 45 ?_ hS (fun wx hx => ?_) ?_; rotate_left
    · obtain ⟨j0, j1, j2, j3, j4, j5, j6, j7, j8, j9, ja, jb⟩ := cel15 hx; go_simp; try with_reducible rfl
    refine tkH 46 ?_ hS (fun wx hx => ?_) ?_; rotate_left
    · obtain ⟨j0, j1, j2, j3, j4, j5, j6, j7, j8, j9, ja, jb⟩ := cel15 hx; go_simp; try with_reducible rfl
    try simp only [Act.put, List.getElem_toArray, List.getElem_cons_zero, List.getElem_cons_succ, List.setIfInBounds_toArray, List.set_cons_succ, List.set_cons_zero]
    refine tkH 47 ?_ hS (fun wx hx => ?_) ?_; rotate_left
    · obtain ⟨j0, j1, j2, j3, j4, j5, j6, j7, j8, j9, ja, jb⟩ := cel15 hx; go_simp; try with_reducible rfl
    refine tkH 48 ?_ hS (fun wx hx => ?_) ?_; rotate_left
    · obtain ⟨j0, j1, j2, j3, j4, j5, j6, j7, j8, j9, ja, jb⟩ := cel15 hx; go_simp; try with_reducible rfl
    refine tkH 49 ?_ hS (fun wx hx => ?_) ?_; rotate_left
    · obtain ⟨j0, j1, j2, j3, j4, j5, j6, j7, j8, j9, ja, jb⟩ := cel15 hx; go_simp; try with_reducible rfl
    refine rdH 50 (fun K hK => ?_)
    go_simp
    go_wp2_with fail
    refine (specCountWrites_is S _ _ _ key c10 d10 0 _ hS.1.st A10.out).mono ?_
    rintro e z2 ⟨rfl, q⟩
    go_wp2_with fail
    refine hK.out _ _ ⟨hS.1.later q, hS.2.1.later q, hS.2.2.1.later q, hS.2.2.2.later q⟩ (fun hS => ?_)
    clear hK K q
    refine tkH 51 ?_ hS (fun wx hx => ?_) ?_; rotate_left
    · obtain ⟨j0, j1, j2, j3, j4, j5, j6, j7, j8, j9, ja, jb⟩ := cel15 hx; go_simp; try with_reducible rfl
    refine tkH 52 ?_ hS (fun wx hx => ?_) ?_; rotate_left
    · obtain ⟨j0, j1, j2, j3, j4, j5, j6, j7, j8, j9, ja, jb⟩ := cel15 hx; go_simp; try with_reducible rfl
    try simp only [Act.put, List.getElem_toArray, List.getElem_cons_zero, List.getElem_cons_succ, List.setIfInBounds_toArray, List.set_cons_succ, List.set_cons_zero]
    refine tkH 53 ?_ hS (fun wx hx => ?_) ?_; rotate_left
    · obtain ⟨j0, j1, j2, j3, j4, j5, j6, j7, j8, j9, ja, jb⟩ := cel15 hx; go_simp; try with_reducible rfl
    refine tkH 54 ?_ hS (fun wx hx => ?_) ?_; rotate_left
    · obtain ⟨j0, j1, j2, j3, j4, j5, j6, j7, j8, j9, ja, jb⟩ := cel15 hx; go_simp; try with_reducible rfl
    refine wpAnyH_done (by kernel_rfl) ?_ _
    have HB : Hid (Below w.heap.size w z2) := hS.1.below
    clear hS f2
    go_simp
    go_wp2
    go_ret
    exact ⟨rfl, HB.out⟩
end Go.Proofs.Ytdodahmimppdoaa

namespace Go.Proofs.Ytdodahmimppdoaa
open Go.RowKit

theorem fnColumns_walk (o : Option Addr) (len cap : Nat) (w : World) (h : Code w o len) (hl0 : len ≤ maxLen) :
    Calls Try.prog 3 #[.slice o len cap] w fun e w' => e = .returned (.bool true) ∧ Below w.heap.size w w' :=
  fnColumns_over o len cap w hl0 (fun hl => (drawLastWrite_any w o len cap h hl).mono (fun _ _ q => q))
end Go.Proofs.Ytdodahmimppdoaa

