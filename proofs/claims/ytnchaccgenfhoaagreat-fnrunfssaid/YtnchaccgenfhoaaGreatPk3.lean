/-
  Own text, merged of FsI, FsK, FsD, FsJ, FsL, FsM, FsN, FsO, FsP, FsQ.
-/
import Derived.Test.YtnchaccgenfhoaaGreatPk2
namespace Go.Proofs.YtnchaccgenfhoaaGreat
open Go.RowKit Go.Maps

/-- What was read: each key once, in order. -/
def addR (xs : List Int) (k : Int) : List Int := if k ∈ xs then xs else xs ++ [k]
/-- What stands by its key. -/
def seenM (L : Prs) (xs : List Int) (k : Int) : Option (Bool × Int) := if k ∈ xs then some (lookF L k) else none
theorem SM.congr {w : World} {b n : Nat} {m m' : Int → Option (Bool × Int)} (h : SM w b n m) (e : ∀ x, m x = m' x) : SM w b n m' := by
  obtain ⟨D, h1, r⟩ := h; exact ⟨D, h1, fun x hx => by rw [← e]; exact r x hx⟩
/-- The view that is looked at: its box rb, its pairs in blocks below mb. -/
def Viewed (w : World) (rb mb : Nat) (L : Prs) : Prop := ∃ v, Blk2 w rb v (.func (.func 63) #[] #[]) ∧ Own w (rb + 1) 61 2 L.length (rowL L) v ∧ ∀ k, v.ownBlock = some k → k < mb
/-- The box b of a looking: the view's box rb, the map mb, what was read. -/
def Looks (w : World) (b rb mb : Nat) (L : Prs) (xs : List Int) (vr : Value) : Prop :=
  Blk3 w b (.pointer (some ⟨rb, 0, none⟩)) (.map (some mb)) vr ∧ Viewed w rb mb L ∧ SM w mb xs.length (seenM L xs) ∧ Ints w (b + 1) vr xs ∧ rb < mb ∧ mb < b
theorem Viewed.kept {w w' : World} {rb mb : Nat} {L : Prs} (h : Viewed w rb mb L) (hb : ∀ k, k < w.heap.size → k < mb → w'.heap[k]? = w.heap[k]?) (hr : rb < mb) : Viewed w' rb mb L := by
  obtain ⟨v, h1, h2, h3⟩ := h
  exact ⟨v, h1.kept (hb rb h1.lt hr), own_kept h2 (fun k hk => hb k (own_in h2 k hk).2 (h3 k hk)), h3⟩
/-- Blocks that a looking does not write into are as they were; what it has read lies where it lay, or in new memory. -/
def Keeps (w w' : World) (b mb : Nat) (vr vr' : Value) : Prop :=
  (w'.os = w.os ∧ w'.tape = w.tape ∧ w'.output = w.output) ∧ w.heap.size ≤ w'.heap.size ∧ (∀ k, k < w.heap.size → k ≠ b → k ≠ mb → vr.ownBlock ≠ some k → w'.heap[k]? = w.heap[k]?) ∧ ∀ k, vr'.ownBlock = some k → k < w.heap.size → vr.ownBlock = some k
theorem Keeps.below {w w' : World} (b mb : Nat) (vr : Value) (h : Below w.heap.size w w') : Keeps w w' b mb vr vr := ⟨⟨h.os, h.tape, h.output⟩, h.size, fun k hk _ _ _ => h.block k hk, fun _ hk _ => hk⟩
theorem Keeps.trans {w w' w'' : World} {b mb : Nat} {vr vr' vr'' : Value} (h : Keeps w w' b mb vr vr') (h' : Keeps w' w'' b mb vr' vr'') : Keeps w w'' b mb vr vr'' :=
  ⟨⟨h'.1.1.trans h.1.1, h'.1.2.1.trans h.1.2.1, h'.1.2.2.trans h.1.2.2⟩, Nat.le_trans h.2.1 h'.2.1, fun k hk h1 h2 h3 => (h'.2.2.1 k (Nat.lt_of_lt_of_le hk h.2.1) h1 h2 (fun e => h3 (h.2.2.2 k e hk))).trans (h.2.2.1 k hk h1 h2 h3), fun k hk hw => h.2.2.2 k (h'.2.2.2 k hk (Nat.lt_of_lt_of_le hw h.2.1)) hw⟩
theorem Looks.later {w w' : World} {b rb mb : Nat} {L : Prs} {xs : List Int} {vr : Value} (h : Looks w b rb mb L xs vr) (hb : Below w.heap.size w w') : Looks w' b rb mb L xs vr :=
  ⟨h.1.later hb, h.2.1.kept (fun k hk _ => hb.block k hk) h.2.2.2.2.1, h.2.2.1.later hb, h.2.2.2.1.later hb, h.2.2.2.2⟩
theorem Looks.alloc {w : World} {b rb mb : Nat} {L : Prs} {xs : List Int} {vr : Value} (h : Looks w b rb mb L xs vr) (o : Obj) : Looks (w.alloc o) b rb mb L xs vr := h.later (below_alloc _ _)
/-- A block of the caller's own. -/
def Off (w : World) (b mb : Nat) (vr : Value) (k : Nat) : Prop := k < w.heap.size ∧ k ≠ b ∧ k ≠ mb ∧ vr.ownBlock ≠ some k
theorem Keeps.off {w w' : World} {b mb : Nat} {vr vr' : Value} {k : Nat} (h : Keeps w w' b mb vr vr') (ho : Off w b mb vr k) : Off w' b mb vr' k ∧ w'.heap[k]? = w.heap[k]? :=
  ⟨⟨Nat.lt_of_lt_of_le ho.1 h.2.1, ho.2.1, ho.2.2.1, fun e => ho.2.2.2 (h.2.2.2 k e ho.1)⟩, h.2.2.1 k ho.1 ho.2.1 ho.2.2.1 ho.2.2.2⟩
theorem Looks.off {w : World} {b rb mb : Nat} {L : Prs} {xs : List Int} {vr : Value} (h : Looks w b rb mb L xs vr) (o : Obj) : Off (w.alloc o) b mb vr w.heap.size := by
  have h1 := h.1.lt
  have h2 := h.2.2.1.lt
  exact ⟨by simp, by omega, by omega, fun e => by have := (h.2.2.2.1.lt _ e).2; omega⟩
theorem Keeps.toBelow {w w' : World} {b mb B : Nat} {vr vr' : Value} (h : Keeps w w' b mb vr vr') (hB : B ≤ w.heap.size) (h1 : B ≤ b) (h2 : B ≤ mb) (h3 : ∀ k, vr.ownBlock = some k → B ≤ k) : Below B w w' :=
  ⟨h.1.1, h.1.2.1, h.1.2.2, h.2.1, fun k hk => h.2.2.1 k (by omega) (by omega) (by omega) (fun e => by have := h3 k e; omega)⟩
theorem Blk3.set2L {x : World} {b : Nat} {a0 a1 a2 : Value} (h : Blk3 x b a0 a1 a2) (u : Value) : Blk3 (x.setCell ⟨b, 2, none⟩ u) b a0 a1 u := by
  obtain ⟨⟨h0, h1, h2⟩, f0, f1, f2⟩ := h
  exact ⟨⟨(World.cell?_setCell_other _ _ _ _ (by simp)).trans h0, (World.cell?_setCell_other _ _ _ _ (by simp)).trans h1, World.cell?_setCell_same _ _ _ h2⟩, by simpa using f0, by simpa using f1, by simpa using f2⟩
theorem find_look {L : Prs} {key y z : Int} {r : Bool} (hr : Rises L) (h1 : r = true ↔ atKey L key) (h2 : r = true → (y, z) = L.getD (aheadN L key) (0, 0)) (h3 : r = false → y = 0 ∧ z = 0) : lookF L key = (r, z) := by
  cases r with
  | true => rw [look_at (h1.1 rfl), ← h2 rfl]
  | false => rw [look_no hr (fun q => Bool.false_ne_true (h1.2 q)), (h3 rfl).2]
def LookAns (w : World) (b rb mb : Nat) (L : Prs) (xs : List Int) (vr : Value) (key : Int) (e : Ending) (w' : World) : Prop :=
  e = .returned (.agg #[.bool (lookF L key).1, .int .i64 (lookF L key).2]) ∧ ∃ vr', Looks w' b rb mb L (addR xs key) vr' ∧ Keeps w w' b mb vr vr'
set_option maxRecDepth 100000 in
set_option maxHeartbeats 4000000 in
theorem look_old (L : Prs) (b rb mb : Nat) (xs : List Int) (vr : Value) (key : Int) (w : World) (h : Looks w b rb mb L xs vr) (hk : 0 ≤ key ∧ key ≤ 199) (hin : key ∈ xs) :
    Calls Tryz.prog 65 #[.pointer (some ⟨b, 0, none⟩), .int .i64 key] w (LookAns w b rb mb L xs vr key) := by
  have HL : Hid (Looks w b rb mb L xs vr ∧ key ∈ xs) := ⟨h, hin⟩
  obtain ⟨s, hs⟩ : ∃ s, lookF L key = s := ⟨_, rfl⟩
  obtain ⟨r, z⟩ := s
  have HS : Hid (lookF L key = (r, z)) := hs
  have hm : seenM L xs key = some (r, z) := by unfold seenM; rw [if_pos hin, hs]
  have hlook := (h.2.2.1.later (below_alloc w (.cells #[.bool false, .int .i64 0] 102))).look (wf_key hk.1 (by omega))
  rw [hm] at hlook
  have hlook' : (Instr.lookup 113 (.map (some mb)) (.int .i64 key) true).run Tryz.prog (w.alloc (.cells #[.bool false, .int .i64 0] 102)) = .ok (.tuple #[.agg #[.bool r, .int .i64 z], .bool true]) (w.alloc (.cells #[.bool false, .int .i64 0] 102)) := hlook
  obtain ⟨⟨c0, c1, c2⟩, _⟩ := h.1
  have hlt := h.1.lt
  clear hlook hs hm h hin
  go_enter Tryz.func65, Tryz.ntmps65
  go_wp2
  refine bodyPost_ret (v := .agg #[.bool r, .int .i64 z]) (by simp [results, Tryz.results65, go_sem]) rfl ?_
  have hB : Below w.heap.size w ((w.alloc (.cells #[.bool r, .int .i64 z] 102)).alloc (.cells #[.bool r, .int .i64 z] 102)) := (below_alloc _ _).alloc (by simp) _
  unfold LookAns
  rw [HS.out]
  refine ⟨rfl, vr, ?_, Keeps.below _ _ _ hB⟩
  rw [show addR xs key = xs from if_pos HL.out.2]
  exact HL.out.1.later hB
theorem info_i64L : (Tryz.prog.info? 2).map (fun i => (i.zero, i.size, i.bytes)) = some (some (.int .i64 0), 1, 8) := by kernel_rfl
theorem run_lit1L (x : Int) (w : World) : (Instr.buildSlice 39 1 #[(0, .int .i64 x)]).run Tryz.prog w = .ok (.slice (some ⟨w.heap.size, 0, none⟩) 1 1) (w.alloc (.cells #[.int .i64 x] 2)) := by
  first | kernel_rfl | rfl
theorem row_lit1 (Y : World) (x : Int) : Row (Y.alloc (.cells #[.int .i64 x] 2)) Y.heap.size 1 1 (fun p => [x].getD p 0) (.slice (some ⟨Y.heap.size, 0, none⟩) 1 1) :=
  (OwnM.rowL (OwnM.lit Y 2 1 1 [x] #[.int .i64 x] (by simp) rfl (by unfold maxLen; omega))).1
theorem seen_put {L : Prs} {xs : List Int} {key : Int} {s : Bool × Int} (hs : lookF L key = s) (x : Int) : putS1 (seenM L xs) key s x = seenM L (xs ++ [key]) x := by
  unfold putS1 seenM
  by_cases e : x = key
  · subst e
    rw [if_pos rfl, if_pos (by simp), hs]
  · rw [if_neg e]
    by_cases h : x ∈ xs
    · rw [if_pos h, if_pos (by simp [h])]
    · rw [if_neg h, if_neg (by simp [h, e])]
/-- Behind the append: the box still has the old list; its new one is u. -/
def LookApp (w w6 : World) (b rb mb : Nat) (L : Prs) (ys : List Int) (v u : Value) : Prop :=
  (Blk3 w6 b (.pointer (some ⟨rb, 0, none⟩)) (.map (some mb)) v ∧ Viewed w6 rb mb L ∧ SM w6 mb ys.length (seenM L ys) ∧ Blk2 w6 w.heap.size (.bool false) (.int .i64 0)) ∧ (Ints w6 (b + 1) u ys ∧ ∀ k, u.ownBlock = some k → k ≠ w.heap.size) ∧ (b < w.heap.size ∧ mb < b ∧ rb < mb) ∧ Keeps w w6 b mb v u
theorem look_app {w w5 w6 : World} {b rb mb : Nat} {L : Prs} {xs : List Int} {key : Int} {ao ao1 : Option Addr} {cp cp1 : Nat}
    (h1 : Blk3 w5 b (.pointer (some ⟨rb, 0, none⟩)) (.map (some mb)) (.slice ao xs.length cp)) (h2 : Viewed w5 rb mb L) (h3 : SM w5 mb (xs.length + 1) (seenM L (xs ++ [key]))) (h4 : Blk2 w5 w.heap.size (.bool false) (.int .i64 0))
    (ho : ∀ k, (Value.slice ao xs.length cp).ownBlock = some k → k ≠ b ∧ k ≠ mb ∧ k ≠ w.heap.size ∧ k < w5.heap.size) (hvb : ∀ k, (Value.slice ao xs.length cp).ownBlock = some k → b + 1 ≤ k)
    (O6 : OwnM w6 (b + 1) 2 1 (.slice ao1 (xs.length + 1) cp1) (xs.length + 1) (xs ++ nums (fun p => [key].getD p 0) (1 * 1)))
    (G6 : (w5.alloc (.cells #[.int .i64 key] 2)).grownBy w6 (Value.slice ao xs.length cp).ownBlock)
    (N6 : (Value.slice ao1 (xs.length + 1) cp1).ownBlock = (Value.slice ao xs.length cp).ownBlock ∨ (Value.slice ao1 (xs.length + 1) cp1).ownBlock = some (w5.alloc (.cells #[.int .i64 key] 2)).heap.size)
    (hb : b < w.heap.size) (hm : mb < b) (hr : rb < mb) (hK : Keeps w w5 b mb (.slice ao xs.length cp) (.slice ao xs.length cp)) :
    LookApp w w6 b rb mb L (xs ++ [key]) (.slice ao xs.length cp) (.slice ao1 (xs.length + 1) cp1) := by
  have kp : ∀ k, k < w5.heap.size → (Value.slice ao xs.length cp).ownBlock ≠ some k → w6.heap[k]? = w5.heap[k]? := fun k hk hne => (G6.block k (by simp; omega) (fun e => hne e.symm)).trans (Below.heap_alloc w5 _ k hk)
  have hsz : w5.heap.size ≤ w6.heap.size := Nat.le_trans (by simp) G6.size
  refine ⟨⟨h1.kept (kp b h1.lt (fun e => (ho b e).1 rfl)), h2.kept (fun k hk hkm => kp k hk (fun e => by have := hvb k e; omega)) hr, ?_, h4.kept (kp _ h4.lt (fun e => (ho _ e).2.2.1 rfl))⟩, ⟨?_, ?_⟩, ⟨hb, hm, hr⟩, hK.trans ⟨⟨G6.os, G6.tape, G6.output⟩, hsz, fun k hk _ _ hne => kp k hk hne, fun k hk hlt => ?_⟩⟩
  · rw [List.length_append]
    exact h3.kept (kp mb h3.lt (fun e => (ho mb e).2.1 rfl))
  · have e : nums (fun p => [key].getD p 0) (1 * 1) = [key] := rfl
    rw [e] at O6
    unfold Ints
    rw [List.length_append]
    exact O6
  · intro k hk
    rcases N6 with q | q
    · exact (ho k (by rw [← q]; exact hk)).2.2.1
    · rw [q] at hk
      have := Option.some.inj hk
      have := h4.lt
      simp at *
      omega
  · rcases N6 with q | q
    · rw [← q]; exact hk
    · rw [q] at hk
      have := Option.some.inj hk
      simp at this
      omega
theorem LookApp.cells {w w6 : World} {b rb mb : Nat} {L : Prs} {ys : List Int} {v u : Value} (h : LookApp w w6 b rb mb L ys v u) :
    w6.cell? ⟨b, 0, none⟩ = some (.pointer (some ⟨rb, 0, none⟩)) ∧ w6.cell? ⟨b, 1, none⟩ = some (.map (some mb)) ∧ w6.cell? ⟨b, 2, none⟩ = some v ∧ w6.frozen? ⟨b, 2, none⟩ = false ∧ w6.cell? ⟨w.heap.size, 0, none⟩ = some (.bool false) ∧ w6.cell? ⟨w.heap.size, 1, none⟩ = some (.int .i64 0) ∧ w6.frozen? ⟨w.heap.size, 0, none⟩ = false ∧ w6.frozen? ⟨w.heap.size, 1, none⟩ = false :=
  ⟨h.1.1.1.1, h.1.1.1.2.1, h.1.1.1.2.2, h.1.1.2.2.2, h.1.2.2.2.1.1, h.1.2.2.2.1.2, h.1.2.2.2.2.1, h.1.2.2.2.2.2⟩
theorem LookApp.look {w w6 : World} {b rb mb : Nat} {L : Prs} {xs : List Int} {v u : Value} {key : Int} {s : Bool × Int} (h : LookApp w w6 b rb mb L (xs ++ [key]) v u) (hwf : (Lit.int .i64 key).wf = true) (hs : lookF L key = s) :
    (Instr.lookup 113 (.map (some mb)) (.int .i64 key) false).run Tryz.prog (w6.setCell ⟨b, 2, none⟩ u) = .ok (.agg #[.bool s.1, .int .i64 s.2]) (w6.setCell ⟨b, 2, none⟩ u) := by
  have h1 := (h.1.2.2.1.kept (Below.heap_setCell w6 ⟨b, 2, none⟩ u mb (by have := h.2.2.1.2.1; simp; omega))).look1 hwf
  have h2 : seenM L (xs ++ [key]) key = some s := by unfold seenM; rw [if_pos (by simp), hs]
  rw [h2] at h1
  exact h1
theorem LookApp.done {w w6 : World} {b rb mb : Nat} {L : Prs} {ys : List Int} {v u : Value} (h : LookApp w w6 b rb mb L ys v u) (p q : Value) :
    Looks (((w6.setCell ⟨b, 2, none⟩ u).setCell ⟨w.heap.size, 0, none⟩ p).setCell ⟨w.heap.size, 1, none⟩ q) b rb mb L ys u ∧ Keeps w (((w6.setCell ⟨b, 2, none⟩ u).setCell ⟨w.heap.size, 0, none⟩ p).setCell ⟨w.heap.size, 1, none⟩ q) b mb v u := by
  obtain ⟨⟨h1, h2, h3, h4⟩, ⟨h5, h6⟩, ⟨hb, hm, hr⟩, h7⟩ := h
  have kp : ∀ k, k ≠ b → k ≠ w.heap.size → (((w6.setCell ⟨b, 2, none⟩ u).setCell ⟨w.heap.size, 0, none⟩ p).setCell ⟨w.heap.size, 1, none⟩ q).heap[k]? = w6.heap[k]? := fun k hk hw => ((Below.heap_setCell _ ⟨w.heap.size, 1, none⟩ q k hw).trans (Below.heap_setCell _ ⟨w.heap.size, 0, none⟩ p k hw)).trans (Below.heap_setCell w6 ⟨b, 2, none⟩ u k hk)
  have kb : (((w6.setCell ⟨b, 2, none⟩ u).setCell ⟨w.heap.size, 0, none⟩ p).setCell ⟨w.heap.size, 1, none⟩ q).heap[b]? = (w6.setCell ⟨b, 2, none⟩ u).heap[b]? := (Below.heap_setCell _ ⟨w.heap.size, 1, none⟩ q b (by simp; omega)).trans (Below.heap_setCell _ ⟨w.heap.size, 0, none⟩ p b (by simp; omega))
  have hi : OwnM w6 (b + 1) 2 1 u ys.length ys := h5
  refine ⟨⟨(h1.set2L u).kept kb, h2.kept (fun k _ hk => kp k (by omega) (by omega)) hr, h3.kept (kp mb (by omega) (by omega)), OwnM.keptB hi (fun k hk => kp k (by have := (h5.lt k hk).1; omega) (h6 k hk)), hr, hm⟩, ⟨h7.1, by simpa using h7.2.1, fun k hk h1 h2 h3 => (kp k h1 (by omega)).trans (h7.2.2.1 k hk h1 h2 h3), h7.2.2.2⟩⟩
set_option maxRecDepth 100000 in
set_option maxHeartbeats 4000000 in
theorem look_new (L : Prs) (b rb mb : Nat) (xs : List Int) (vr : Value) (key : Int) (w : World) (h : Looks w b rb mb L xs vr) (hrs : Rises L) (hn : L.length ≤ 1000) (hk : 0 ≤ key ∧ key ≤ 199) (hx : xs.length ≤ 1000) (hin : ¬ key ∈ xs) :
    Calls Tryz.prog 65 #[.pointer (some ⟨b, 0, none⟩), .int .i64 key] w (LookAns w b rb mb L xs vr key) := by
  obtain ⟨ao, cp, rfl⟩ := h.2.2.2.1.form
  have HL : Hid (Looks w b rb mb L xs (.slice ao xs.length cp) ∧ ¬ key ∈ xs ∧ Rises L) := ⟨h, hin, hrs⟩
  obtain ⟨i0, hi, hz⟩ : ∃ i, Tryz.prog.info? 2 = some i ∧ (i.zero, i.size, i.bytes) = (some (.int .i64 0), 1, 8) := by
    have := info_i64L
    cases q : Tryz.prog.info? 2 with
    | none => rw [q] at this; cases this
    | some i => rw [q] at this; exact ⟨i, rfl, Option.some.inj this⟩
  simp only [Prod.mk.injEq] at hz
  obtain ⟨hz0, hz1, hz2⟩ := hz
  have hwf := wf_key hk.1 (show key ≤ 100000 by omega)
  have hm : seenM L xs key = none := if_neg hin
  have hlook := (h.2.2.1.later (below_alloc w (.cells #[.bool false, .int .i64 0] 102))).look hwf
  rw [hm] at hlook
  have hlook' : (Instr.lookup 113 (.map (some mb)) (.int .i64 key) true).run Tryz.prog (w.alloc (.cells #[.bool false, .int .i64 0] 102)) = .ok (.tuple #[.agg #[.bool false, .int .i64 0], .bool false]) (w.alloc (.cells #[.bool false, .int .i64 0] 102)) := hlook
  obtain ⟨⟨c0, c1, c2⟩, _⟩ := h.1
  have hlt := h.1.lt
  have HLT : Hid (b < w.heap.size ∧ mb < b ∧ rb < mb) := ⟨hlt, h.2.2.2.2.2, h.2.2.2.2.1⟩
  have HB2 : Hid (Below w.heap.size w ((w.alloc (.cells #[.bool false, .int .i64 0] 102)).alloc (.cells #[.bool false, .int .i64 0] 102))) := (below_alloc _ _).alloc (by simp) _
  obtain ⟨v0, V1, V2, V3⟩ := h.2.1
  have HV : Hid (Blk2 w rb v0 (.func (.func 63) #[] #[]) ∧ Own w (rb + 1) 61 2 L.length (rowL L) v0) := ⟨V1, V2⟩
  have HR : Hid (Blk2 (w.alloc (.cells #[.bool false, .int .i64 0] 102)) w.heap.size (.bool false) (.int .i64 0)) := Blk2.new _ _ _ _
  have HK : Hid (0 ≤ key ∧ key ≤ 199) := hk
  clear hlook hm h hin V1 V2 V3 hrs hk
  go_enter Tryz.func65, Tryz.ntmps65
  go_wp2_with fail
  refine (find_any L rb (rb + 1) v0 key 0 _ ((HV.out.1.alloc _).alloc _) ((HV.out.2.alloc _).alloc _) HL.out.2.2 hn).mono ?_
  rintro e w3 ⟨r, y, z, rfl, hr1, hr2, hr3, q3⟩
  have HS : Hid (lookF L key = (r, z)) := find_look HL.out.2.2 hr1 hr2 hr3
  have HB3 : Hid (Below w.heap.size w (w3.alloc (.cells #[.int .i64 y, .int .i64 z] 61))) := (HB2.out.trans (q3.mono (by simp; omega))).alloc (Nat.le_trans HB2.out.size q3.size) _
  have HR3 : Hid (Blk2 (w3.alloc (.cells #[.int .i64 y, .int .i64 z] 61)) w.heap.size (.bool false) (.int .i64 0) ∧ w.heap.size < w3.heap.size) := ⟨((HR.out.alloc _).later q3).alloc _, Nat.lt_of_lt_of_le (by simp; omega) q3.size⟩
  have HL3 : Hid (Looks (w3.alloc (.cells #[.int .i64 y, .int .i64 z] 61)) b rb mb L xs (.slice ao xs.length cp)) := HL.out.1.later HB3.out
  clear hr1 hr2 hr3 q3 c0 c1 c2 HV HR hlook' HB2
  go_upto_region 5 with fail
  have hpb := (Blk2.new w3 (.int .i64 y) (.int .i64 z) 61).1.2
  have HPB : Hid (w3.heap.size < (w3.alloc (.cells #[.int .i64 y, .int .i64 z] 61)).heap.size) := by unfold Hid; simp
  generalize w3.alloc (.cells #[.int .i64 y, .int .i64 z] 61) = w4 at HB3 HR3 HL3 hpb HPB ⊢
  obtain ⟨⟨c0, c1, c2⟩, f0, f1, f2⟩ := HL3.out.1
  obtain ⟨w5, hrun, hP5, hg5⟩ := SM.put (w := w4.drew) (HL3.out.2.2.1.kept rfl) (Nat.lt_of_le_of_lt hx (by decide)) hwf (r, z)
  have hk5 : ∀ i, i < w4.heap.size → i ≠ mb → w5.heap[i]? = w4.heap[i]? := fun i hi hne => hg5.block i hi (fun e => hne (Option.some.inj e))
  have S5 : w5.cell? ⟨b, 1, none⟩ = some (.map (some mb)) ∧ w5.cell? ⟨w3.heap.size, 1, none⟩ = some (.int .i64 z) := by
    have e1 := hk5 b HL3.out.1.lt (by have := HLT.out; omega)
    have e2 := hk5 w3.heap.size HPB.out (by have := HLT.out; have := HR3.out.2; omega)
    exact ⟨(World.cell?_of_block (w := w4) (a := ⟨b, 1, none⟩) e1).trans c1, (World.cell?_of_block (w := w4) (a := ⟨w3.heap.size, 1, none⟩) e2).trans hpb⟩
  have HL5 : Hid (Blk3 w5 b (.pointer (some ⟨rb, 0, none⟩)) (.map (some mb)) (.slice ao xs.length cp) ∧ Viewed w5 rb mb L ∧ SM w5 mb (xs.length + 1) (seenM L (xs ++ [key])) ∧ Ints w5 (b + 1) (.slice ao xs.length cp) xs) :=
    ⟨HL3.out.1.kept (hk5 b HL3.out.1.lt (by have := HLT.out; omega)), HL3.out.2.1.kept (fun k hk hm => hk5 k hk (by omega)) HLT.out.2.2, hP5.congr (seen_put HS.out), Ints.grown (w := w4) HL3.out.2.2.2.1 ⟨hg5.os, hg5.tape, hg5.output, hg5.size, hg5.block⟩ (fun k hk e => by have := (HL3.out.2.2.2.1.lt k hk).1; have := HLT.out; cases e; omega)⟩
  have HR5 : Hid (Blk2 w5 w.heap.size (.bool false) (.int .i64 0)) := HR3.out.1.kept (hk5 _ HR3.out.1.lt (by have := HLT.out; omega))
  have HK5 : Hid (Keeps w w5 b mb (.slice ao xs.length cp) (.slice ao xs.length cp)) := (Keeps.below b mb _ HB3.out).trans ⟨⟨hg5.os, hg5.tape, hg5.output⟩, hg5.size, fun k hk _ h2 _ => hk5 k hk h2, fun _ hk _ => hk⟩
  clear hk5 hP5 hg5 HR3 HL3 HPB HB3 c0 c2 f0 f1 f2
  refine wp_region_held_drew (S := fun X => X.cell? ⟨b, 1, none⟩ = some (.map (some mb)) ∧ X.cell? ⟨w3.heap.size, 1, none⟩ = some (.int .i64 z)) (by kernel_rfl) ⟨c1, hpb⟩ (fun hS => ?_)
  refine tkH 0 ?_ hS (fun wx hx => ?_) ?_; rotate_left
  · obtain ⟨hx0, hx1⟩ := hx; go_simp; try with_reducible rfl
  refine tkH 1 ?_ hS (fun wx hx => ?_) ?_; rotate_left
  · obtain ⟨hx0, hx1⟩ := hx; go_simp; try with_reducible rfl
  refine tkH 2 ?_ hS (fun wx hx => ?_) ?_; rotate_left
  · obtain ⟨hx0, hx1⟩ := hx; go_simp; try with_reducible rfl
  refine tkH 3 ?_ hS (fun wx hx => ?_) ?_; rotate_left
  · obtain ⟨hx0, hx1⟩ := hx; go_simp; try with_reducible rfl
  refine tkH 4 ?_ hS (fun wx hx => ?_) ?_; rotate_left
  · obtain ⟨hx0, hx1⟩ := hx; go_simp; try with_reducible rfl
  refine tkH 5 ?_ hS (fun wx hx => ?_) ?_; rotate_left
  · obtain ⟨hx0, hx1⟩ := hx; go_simp; try with_reducible rfl
  refine tkH 6 ?_ hS (fun wx hx => ?_) ?_; rotate_left
  · obtain ⟨hx0, hx1⟩ := hx; go_simp; try with_reducible rfl
  refine tkH 7 ?_ hS (fun wx hx => ?_) ?_; rotate_left
  · obtain ⟨hx0, hx1⟩ := hx; go_simp; try with_reducible rfl
  refine tkH 8 ?_ hS (fun wx hx => ?_) ?_; rotate_left
  · obtain ⟨hx0, hx1⟩ := hx; go_simp; try with_reducible rfl
  refine rdH 9 (fun K hK => ?_)
  go_simp
  refine hK.out _ _ S5 (fun hS => ?_)
  clear hK K
  refine wpAnyH_done (by kernel_rfl) ?_ _
  go_simp
  obtain ⟨⟨c0, c1', c2⟩, f0, f1, f2⟩ := HL5.out.1
  have hl5 : b < w5.heap.size := HL5.out.1.lt
  have hlit := fun w => run_lit1L key w
  have HO : Hid (OwnM (w5.alloc (.cells #[.int .i64 key] 2)) (b + 1) 2 1 (.slice ao xs.length cp) xs.length xs) := OwnM.later (show OwnM w5 (b + 1) 2 1 (.slice ao xs.length cp) xs.length xs from HL5.out.2.2.2) (below_alloc _ _)
  have HRW : Hid (Row (w5.alloc (.cells #[.int .i64 key] 2)) w5.heap.size 1 1 (fun p => [key].getD p 0) (.slice (some ⟨w5.heap.size, 0, none⟩) 1 1)) := row_lit1 w5 key
  clear hrun hS S5 hpb c1
  have HOB : Hid (∀ k, (Value.slice ao xs.length cp).ownBlock = some k → k ≠ b ∧ k ≠ mb ∧ k ≠ w.heap.size ∧ k < w5.heap.size) := fun k hk => by
    have h1 := HL.out.1.2.2.2.1.lt k hk
    have h2 := (HL5.out.2.2.2.lt k hk).2
    have := HLT.out
    exact ⟨by omega, by omega, by omega, h2⟩
  go_wp2_with (at_builtin; refine wpList_appL 2 i0 (.int .i64 0) 1 8 rfl _ _ 39 rfl Tryz.underlying39 hi hz0 hz1 hz2 rfl (by omega) (by omega) _ (b + 1) xs.length xs (.slice ao xs.length cp) rfl HO.out w5.heap.size 1 (fun p => [key].getD p 0) _ rfl HRW.out (by omega) (by simp; omega) ?_; intro ao1 cp1 w6 O6 G6 N6; have H6 := look_app HL5.out.1 HL5.out.2.1 HL5.out.2.2.1 HR5.out HOB.out (fun k hk => (HL5.out.2.2.2.lt k hk).1) O6 G6 N6 hlt HLT.out.2.1 HLT.out.2.2 HK5.out; have HH6 : Hid (LookApp w w6 b rb mb L (xs ++ [key]) (.slice ao xs.length cp) (.slice ao1 (xs.length + 1) cp1)) := H6; have hl6 := H6.look hwf HS.out; obtain ⟨d0, d1, d2, e2, z0, z1, g0, g1⟩ := H6.cells; clear O6 G6 N6 H6 HO HRW HOB HL5 HR5 HK5 c0 c1' c2 f0 f1 f2 hlit)
  have HF : Hid (_ ∧ _) := HH6.out.done (.bool r) (.int .i64 z)
  refine bodyPost_ret (v := .agg #[.bool r, .int .i64 z]) (by simp [results, Tryz.results65, go_sem, z0, z1]) rfl ?_
  unfold LookAns
  rw [HS.out]
  refine ⟨rfl, .slice ao1 (xs.length + 1) cp1, ?_, HF.out.2⟩
  rw [show addR xs key = xs ++ [key] from if_neg HL.out.2.1]
  exact HF.out.1
theorem look_is (L : Prs) (b rb mb : Nat) (xs : List Int) (vr : Value) (key : Int) (w : World) (h : Looks w b rb mb L xs vr) (hrs : Rises L) (hn : L.length ≤ 1000) (hk : 0 ≤ key ∧ key ≤ 199) (hx : xs.length ≤ 1000) :
    Calls Tryz.prog 65 #[.pointer (some ⟨b, 0, none⟩), .int .i64 key] w (LookAns w b rb mb L xs vr key) := by
  by_cases hin : key ∈ xs
  · exact look_old L b rb mb xs vr key w h hk hin
  · exact look_new L b rb mb xs vr key w h hrs hn hk hx hin
end Go.Proofs.YtnchaccgenfhoaaGreat

namespace Go.Proofs.YtnchaccgenfhoaaGreat
open Go.RowKit

/-- Block b is a plan under way: its value, what was read, what would be written; its lists lie behind it. -/
def Pln (w : World) (b : Nat) (v : Int) (xs : List Int) (m : Nat) (W : List Int) (vr vw : Value) : Prop := BlkP w b (.int .i64 0) (.int .i64 0) (.int .i64 v) vr vw ∧ PlanAt w (b + 1) xs m W vr vw
theorem Pln.later {w w' : World} {b : Nat} {v : Int} {xs : List Int} {m : Nat} {W : List Int} {vr vw : Value} (h : Pln w b v xs m W vr vw) (hb : Below w.heap.size w w') : Pln w' b v xs m W vr vw := ⟨h.1.later hb, h.2.later hb⟩
/-- .. all that was there ahead of it is as it was. -/
def StP (w0 w : World) (v : Int) (xs : List Int) (m : Nat) (W : List Int) : Prop := Below w0.heap.size w0 w ∧ ∃ vr vw, Pln w w0.heap.size v xs m W vr vw
theorem StP.later {w0 w w' : World} {v : Int} {xs : List Int} {m : Nat} {W : List Int} (h : StP w0 w v xs m W) (hb : Below w.heap.size w w') : StP w0 w' v xs m W := by
  obtain ⟨h1, vr, vw, h2⟩ := h
  exact ⟨h1.trans (hb.mono h1.size), vr, vw, h2.later hb⟩
theorem BlkP.set3 {x : World} {b : Nat} {a0 a1 a2 a3 a4 : Value} (h : BlkP x b a0 a1 a2 a3 a4) (u : Value) : BlkP (x.setCell ⟨b, 3, none⟩ u) b a0 a1 a2 u a4 := by
  obtain ⟨⟨h0, h1, h2, h3, h4⟩, f0, f1, f2, f3, f4⟩ := h
  exact ⟨⟨(World.cell?_setCell_other _ _ _ _ (by simp)).trans h0, (World.cell?_setCell_other _ _ _ _ (by simp)).trans h1, (World.cell?_setCell_other _ _ _ _ (by simp)).trans h2, World.cell?_setCell_same _ _ _ h3, (World.cell?_setCell_other _ _ _ _ (by simp)).trans h4⟩, by simpa using f0, by simpa using f1, by simpa using f2, by simpa using f3, by simpa using f4⟩
theorem BlkP.set4 {x : World} {b : Nat} {a0 a1 a2 a3 a4 : Value} (h : BlkP x b a0 a1 a2 a3 a4) (u : Value) : BlkP (x.setCell ⟨b, 4, none⟩ u) b a0 a1 a2 a3 u := by
  obtain ⟨⟨h0, h1, h2, h3, h4⟩, f0, f1, f2, f3, f4⟩ := h
  exact ⟨⟨(World.cell?_setCell_other _ _ _ _ (by simp)).trans h0, (World.cell?_setCell_other _ _ _ _ (by simp)).trans h1, (World.cell?_setCell_other _ _ _ _ (by simp)).trans h2, (World.cell?_setCell_other _ _ _ _ (by simp)).trans h3, World.cell?_setCell_same _ _ _ h4⟩, by simpa using f0, by simpa using f1, by simpa using f2, by simpa using f3, by simpa using f4⟩
theorem BlkP.set2 {x : World} {b : Nat} {a0 a1 a2 a3 a4 : Value} (h : BlkP x b a0 a1 a2 a3 a4) (u : Value) : BlkP (x.setCell ⟨b, 2, none⟩ u) b a0 a1 u a3 a4 := by
  obtain ⟨⟨h0, h1, h2, h3, h4⟩, f0, f1, f2, f3, f4⟩ := h
  exact ⟨⟨(World.cell?_setCell_other _ _ _ _ (by simp)).trans h0, (World.cell?_setCell_other _ _ _ _ (by simp)).trans h1, World.cell?_setCell_same _ _ _ h2, (World.cell?_setCell_other _ _ _ _ (by simp)).trans h3, (World.cell?_setCell_other _ _ _ _ (by simp)).trans h4⟩, by simpa using f0, by simpa using f1, by simpa using f2, by simpa using f3, by simpa using f4⟩
/-- Behind the append to the reads, and behind its store. -/
theorem pln_reads {w w6 : World} {b : Nat} {v key : Int} {xs : List Int} {m : Nat} {W : List Int} {ao ao1 : Option Addr} {cp cp1 : Nat} {vw : Value} (h : Pln w b v xs m W (.slice ao xs.length cp) vw)
    (O6 : OwnM w6 (b + 1) 2 1 (.slice ao1 (xs.length + 1) cp1) (xs.length + 1) (xs ++ nums (fun p => [key].getD p 0) (1 * 1)))
    (G6 : (w.alloc (.cells #[.int .i64 key] 2)).grownBy w6 (Value.slice ao xs.length cp).ownBlock)
    (N6 : (Value.slice ao1 (xs.length + 1) cp1).ownBlock = (Value.slice ao xs.length cp).ownBlock ∨ (Value.slice ao1 (xs.length + 1) cp1).ownBlock = some (w.alloc (.cells #[.int .i64 key] 2)).heap.size) :
    BlkP w6 b (.int .i64 0) (.int .i64 0) (.int .i64 v) (.slice ao xs.length cp) vw ∧ Pln (w6.setCell ⟨b, 3, none⟩ (.slice ao1 (xs.length + 1) cp1)) b v (xs ++ [key]) m W (.slice ao1 (xs.length + 1) cp1) vw ∧ Below b w (w6.setCell ⟨b, 3, none⟩ (.slice ao1 (xs.length + 1) cp1)) := by
  obtain ⟨h1, h2, h3, h4⟩ := h
  have hbb := h1.lt
  have kp : ∀ k, k < w.heap.size → (Value.slice ao xs.length cp).ownBlock ≠ some k → w6.heap[k]? = w.heap[k]? := fun k hk hne => (G6.block k (by simp; omega) (fun e => hne e.symm)).trans (Below.heap_alloc w _ k hk)
  have hB6 := h1.kept (kp b h1.lt (fun e => by have := (h2.lt b e).1; omega))
  have ks : ∀ k, k ≠ b → (w6.setCell ⟨b, 3, none⟩ (.slice ao1 (xs.length + 1) cp1)).heap[k]? = w6.heap[k]? := fun k hk => Below.heap_setCell w6 ⟨b, 3, none⟩ _ k hk
  have hsz : w.heap.size ≤ w6.heap.size := Nat.le_trans (by simp) G6.size
  refine ⟨hB6, ⟨hB6.set3 _, ?_, OwnM.keptB h3 (fun k hk => (ks k (by have := (OwnM.block h3 k hk).1; omega)).trans (kp k (OwnM.block h3 k hk).2 (fun e => h4 k e hk))), fun k hk e => ?_⟩, ⟨G6.os, G6.tape, G6.output, by simpa using hsz, fun k hk => (ks k (by omega)).trans (kp k (by omega) (fun e => by have := (h2.lt k e).1; omega))⟩⟩
  · have e : nums (fun p => [key].getD p 0) (1 * 1) = [key] := rfl
    rw [e] at O6
    unfold Ints
    rw [List.length_append]
    exact OwnM.keptB O6 (fun k hk => ks k (by have := (OwnM.block O6 k hk).1; omega))
  · rcases N6 with q | q
    · exact h4 k (by rw [← q]; exact hk) e
    · rw [q] at hk
      have h5 := Option.some.inj hk
      have h6 := (OwnM.block h3 k e).2
      simp at h5
      omega
/-- Behind the append to the writes, and behind its store. -/
theorem pln_writes {w w6 : World} {b : Nat} {v k0 k1 k2 : Int} {xs : List Int} {m : Nat} {W : List Int} {ao ao1 : Option Addr} {cp cp1 : Nat} {vr : Value} (h : Pln w b v xs m W vr (.slice ao m cp))
    (O6 : OwnM w6 (b + 1) 132 3 (.slice ao1 (m + 1) cp1) (m + 1) (W ++ nums (fun p => [k0, k1, k2].getD p 0) (1 * 3)))
    (G6 : (w.alloc (.cells #[.int .i64 k0, .int .i64 k1, .int .i64 k2] 132)).grownBy w6 (Value.slice ao m cp).ownBlock)
    (N6 : (Value.slice ao1 (m + 1) cp1).ownBlock = (Value.slice ao m cp).ownBlock ∨ (Value.slice ao1 (m + 1) cp1).ownBlock = some (w.alloc (.cells #[.int .i64 k0, .int .i64 k1, .int .i64 k2] 132)).heap.size) :
    BlkP w6 b (.int .i64 0) (.int .i64 0) (.int .i64 v) vr (.slice ao m cp) ∧ Pln (w6.setCell ⟨b, 4, none⟩ (.slice ao1 (m + 1) cp1)) b v xs (m + 1) (W ++ [k0, k1, k2]) vr (.slice ao1 (m + 1) cp1) ∧ Below b w (w6.setCell ⟨b, 4, none⟩ (.slice ao1 (m + 1) cp1)) := by
  obtain ⟨h1, h2, h3, h4⟩ := h
  have hbb := h1.lt
  have kp : ∀ k, k < w.heap.size → (Value.slice ao m cp).ownBlock ≠ some k → w6.heap[k]? = w.heap[k]? := fun k hk hne => (G6.block k (by simp; omega) (fun e => hne e.symm)).trans (Below.heap_alloc w _ k hk)
  have hB6 := h1.kept (kp b h1.lt (fun e => by have := (OwnM.block h3 b e).1; omega))
  have ks : ∀ k, k ≠ b → (w6.setCell ⟨b, 4, none⟩ (.slice ao1 (m + 1) cp1)).heap[k]? = w6.heap[k]? := fun k hk => Below.heap_setCell w6 ⟨b, 4, none⟩ _ k hk
  have hsz : w.heap.size ≤ w6.heap.size := Nat.le_trans (by simp) G6.size
  have h2' : OwnM w (b + 1) 2 1 vr xs.length xs := h2
  refine ⟨hB6, ⟨hB6.set4 _, OwnM.keptB h2' (fun k hk => (ks k (by have := (OwnM.block h2' k hk).1; omega)).trans (kp k (OwnM.block h2' k hk).2 (fun e => h4 k hk e))), ?_, fun k hk e => ?_⟩, ⟨G6.os, G6.tape, G6.output, by simpa using hsz, fun k hk => (ks k (by omega)).trans (kp k (by omega) (fun e => by have := (OwnM.block h3 k e).1; omega))⟩⟩
  · have e : nums (fun p => [k0, k1, k2].getD p 0) (1 * 3) = [k0, k1, k2] := rfl
    rw [e] at O6
    exact OwnM.keptB O6 (fun k hk => ks k (by have := (OwnM.block O6 k hk).1; omega))
  · rcases N6 with q | q
    · exact h4 k hk (by rw [← q]; exact e)
    · rw [q] at e
      have h5 := Option.some.inj e
      have h6 := (OwnM.block h2' k hk).2
      simp at h5
      omega
theorem run_item1 (k0 k1 k2 : Int) (w : World) : (Instr.buildSlice 79 1 #[(0, .agg #[.int .i64 k0, .int .i64 k1, .int .i64 k2])]).run Tryz.prog w = .ok (.slice (some ⟨w.heap.size, 0, none⟩) 1 1) (w.alloc (.cells #[.int .i64 k0, .int .i64 k1, .int .i64 k2] 132)) := by
  first | kernel_rfl | rfl
theorem row_item1 (Y : World) (k0 k1 k2 : Int) : Row (Y.alloc (.cells #[.int .i64 k0, .int .i64 k1, .int .i64 k2] 132)) Y.heap.size 3 1 (fun p => [k0, k1, k2].getD p 0) (.slice (some ⟨Y.heap.size, 0, none⟩) 1 1) :=
  (OwnM.rowL (OwnM.lit Y 132 3 1 [k0, k1, k2] #[.int .i64 k0, .int .i64 k1, .int .i64 k2] (by simp) rfl (by unfold maxLen; omega))).1
theorem info_itemL : (Tryz.prog.info? 132).map (fun i => (i.zero, i.size, i.bytes)) = some (some (.agg #[.int .i64 0, .int .i64 0, .int .i64 0]), 3, 24) := by kernel_rfl
set_option maxRecDepth 100000 in
set_option maxHeartbeats 2000000 in
theorem l13Put_is (key vv : Int) (w0 w : World) (v : Int) (xs : List Int) (m : Nat) (W : List Int) (h : StP w0 w v xs m W) (hm : m ≤ 1000) :
    Calls Tryz.prog 121 #[.pointer (some ⟨w0.heap.size, 0, none⟩), .int .i64 key, .int .i64 vv] w fun e w' => e = .returned (.tuple #[]) ∧ StP w0 w' v xs (m + 1) (W ++ [key, 1, vv]) := by
  obtain ⟨hb, vr, vw, hP⟩ := h
  obtain ⟨⟨a1, a2, rfl⟩, ⟨a3, a4, rfl⟩⟩ := hP.2.form
  have H : Hid (Below w0.heap.size w0 w ∧ Pln w w0.heap.size v xs m W (.slice a1 xs.length a2) (.slice a3 m a4)) := ⟨hb, hP⟩
  obtain ⟨b, hbq⟩ : ∃ b, w0.heap.size = b := ⟨_, rfl⟩
  have HQ : Hid (w0.heap.size = b) := hbq
  rw [hbq] at H ⊢
  obtain ⟨i0, hi, hz⟩ : ∃ i, Tryz.prog.info? 132 = some i ∧ (i.zero, i.size, i.bytes) = (some (.agg #[.int .i64 0, .int .i64 0, .int .i64 0]), 3, 24) := by
    have := info_itemL
    cases q : Tryz.prog.info? 132 with
    | none => rw [q] at this; cases this
    | some i => rw [q] at this; exact ⟨i, rfl, Option.some.inj this⟩
  simp only [Prod.mk.injEq] at hz
  obtain ⟨hz0, hz1, hz2⟩ := hz
  have hlit := fun w => run_item1 key 1 vv w
  have hlt : b < w.heap.size := H.out.2.1.lt
  obtain ⟨⟨c0, c1, c2, c3, c4⟩, f0, f1, f2, f3, f4⟩ := H.out.2.1
  have HO : Hid (OwnM (w.alloc (.cells #[.int .i64 key, .int .i64 1, .int .i64 vv] 132)) (b + 1) 132 3 (.slice a3 m a4) m W) := OwnM.later H.out.2.2.2.1 (below_alloc _ _)
  have HRW : Hid (Row (w.alloc (.cells #[.int .i64 key, .int .i64 1, .int .i64 vv] 132)) w.heap.size 3 1 (fun p => [key, 1, vv].getD p 0) (.slice (some ⟨w.heap.size, 0, none⟩) 1 1)) := row_item1 w _ _ _
  clear hb hP hbq
  go_enter Tryz.func121, Tryz.ntmps121
  go_wp2_with (at_builtin; refine wpList_appL 132 i0 (.agg #[.int .i64 0, .int .i64 0, .int .i64 0]) 3 24 rfl _ _ 79 rfl Tryz.underlying79 hi hz0 hz1 hz2 rfl (by omega) (by omega) _ (b + 1) m W (.slice a3 m a4) rfl HO.out w.heap.size 1 (fun p => [key, 1, vv].getD p 0) _ rfl HRW.out (by omega) (by simp; omega) ?_; intro ao1 cp1 w6 O6 G6 N6; have HH : Hid (_ ∧ _ ∧ _) := pln_writes H.out.2 O6 G6 N6; obtain ⟨⟨d0, d1, d2, d3, d4⟩, g0, g1, g2, g3, g4⟩ := HH.out.1; clear O6 G6 N6 c0 c1 c2 c3 c4 f0 f1 f2 f3 f4 HO HRW hlit)
  go_end0
  refine ⟨rfl, ?_⟩
  unfold StP
  rw [HQ.out]
  exact ⟨H.out.1.trans HH.out.2.2, _, _, HH.out.2.1⟩
set_option maxRecDepth 100000 in
set_option maxHeartbeats 2000000 in
theorem l13Delete_is (key : Int) (w0 w : World) (v : Int) (xs : List Int) (m : Nat) (W : List Int) (h : StP w0 w v xs m W) (hm : m ≤ 1000) :
    Calls Tryz.prog 133 #[.pointer (some ⟨w0.heap.size, 0, none⟩), .int .i64 key] w fun e w' => e = .returned (.tuple #[]) ∧ StP w0 w' v xs (m + 1) (W ++ [key, 2, 0]) := by
  obtain ⟨hb, vr, vw, hP⟩ := h
  obtain ⟨⟨a1, a2, rfl⟩, ⟨a3, a4, rfl⟩⟩ := hP.2.form
  have H : Hid (Below w0.heap.size w0 w ∧ Pln w w0.heap.size v xs m W (.slice a1 xs.length a2) (.slice a3 m a4)) := ⟨hb, hP⟩
  obtain ⟨b, hbq⟩ : ∃ b, w0.heap.size = b := ⟨_, rfl⟩
  have HQ : Hid (w0.heap.size = b) := hbq
  rw [hbq] at H ⊢
  obtain ⟨i0, hi, hz⟩ : ∃ i, Tryz.prog.info? 132 = some i ∧ (i.zero, i.size, i.bytes) = (some (.agg #[.int .i64 0, .int .i64 0, .int .i64 0]), 3, 24) := by
    have := info_itemL
    cases q : Tryz.prog.info? 132 with
    | none => rw [q] at this; cases this
    | some i => rw [q] at this; exact ⟨i, rfl, Option.some.inj this⟩
  simp only [Prod.mk.injEq] at hz
  obtain ⟨hz0, hz1, hz2⟩ := hz
  have hlit := fun w => run_item1 key 2 0 w
  have hlt : b < w.heap.size := H.out.2.1.lt
  obtain ⟨⟨c0, c1, c2, c3, c4⟩, f0, f1, f2, f3, f4⟩ := H.out.2.1
  have HO : Hid (OwnM (w.alloc (.cells #[.int .i64 key, .int .i64 2, .int .i64 0] 132)) (b + 1) 132 3 (.slice a3 m a4) m W) := OwnM.later H.out.2.2.2.1 (below_alloc _ _)
  have HRW : Hid (Row (w.alloc (.cells #[.int .i64 key, .int .i64 2, .int .i64 0] 132)) w.heap.size 3 1 (fun p => [key, 2, 0].getD p 0) (.slice (some ⟨w.heap.size, 0, none⟩) 1 1)) := row_item1 w _ _ _
  clear hb hP hbq
  go_enter Tryz.func133, Tryz.ntmps133
  go_wp2_with (at_builtin; refine wpList_appL 132 i0 (.agg #[.int .i64 0, .int .i64 0, .int .i64 0]) 3 24 rfl _ _ 79 rfl Tryz.underlying79 hi hz0 hz1 hz2 rfl (by omega) (by omega) _ (b + 1) m W (.slice a3 m a4) rfl HO.out w.heap.size 1 (fun p => [key, 2, 0].getD p 0) _ rfl HRW.out (by omega) (by simp; omega) ?_; intro ao1 cp1 w6 O6 G6 N6; have HH : Hid (_ ∧ _ ∧ _) := pln_writes H.out.2 O6 G6 N6; obtain ⟨⟨d0, d1, d2, d3, d4⟩, g0, g1, g2, g3, g4⟩ := HH.out.1; clear O6 G6 N6 c0 c1 c2 c3 c4 f0 f1 f2 f3 f4 HO HRW hlit)
  go_end0
  refine ⟨rfl, ?_⟩
  unfold StP
  rw [HQ.out]
  exact ⟨H.out.1.trans HH.out.2.2, _, _, HH.out.2.1⟩
theorem take_in {xs : List Int} {k : Nat} (hk : k < xs.length) (key : Int) : decide (key ∈ xs.take (k + 1)) = (decide (key ∈ xs.take k) || (xs[k] == key)) := by
  have e : key ∈ xs.take (k + 1) ↔ key ∈ xs.take k ∨ key = xs[k] := by rw [List.take_succ_eq_append_getElem hk, List.mem_append, List.mem_singleton]
  by_cases h1 : key ∈ xs.take k
  · rw [decide_eq_true (e.2 (Or.inl h1)), decide_eq_true h1]; rfl
  · by_cases h2 : xs[k] = key
    · rw [decide_eq_true (e.2 (Or.inr h2.symm)), decide_eq_false h1, beq_iff_eq.2 h2]; rfl
    · rw [decide_eq_false (fun q => (e.1 q).elim h1 (fun q => h2 q.symm)), decide_eq_false h1, beq_eq_false_iff_ne.2 h2]; rfl
set_option maxRecDepth 100000 in
set_option maxHeartbeats 4000000 in
theorem l13Read_is (key : Int) (Lp : Prs) (y : Value) (w0 w : World) (v : Int) (xs : List Int) (m : Nat) (W : List Int) (hv : Row w0 0 2 Lp.length (rowL Lp) y) (hn : Lp.length ≤ 1048576) (h : StP w0 w v xs m W) (hx : xs.length ≤ 1000) :
    Calls Tryz.prog 104 #[.pointer (some ⟨w0.heap.size, 0, none⟩), y, .int .i64 key] w fun e w' => e = .returned (.tuple #[.int .i64 (lookF Lp key).2, .bool (lookF Lp key).1]) ∧ StP w0 w' v (addR xs key) m W := by
  obtain ⟨hb, vr, vw, hP⟩ := h
  obtain ⟨⟨a1, a2, rfl⟩, ⟨a3, a4, rfl⟩⟩ := hP.2.form
  have H : Hid (Below w0.heap.size w0 w ∧ Pln w w0.heap.size v xs m W (.slice a1 xs.length a2) (.slice a3 m a4)) := ⟨hb, hP⟩
  obtain ⟨b, hbq⟩ : ∃ b, w0.heap.size = b := ⟨_, rfl⟩
  have HQ : Hid (w0.heap.size = b) := hbq
  have HV : Hid (∀ X, Below w0.heap.size w0 X → Row X 0 2 Lp.length (rowL Lp) y) := fun X hX => hv.later hX
  rw [hbq] at H HV ⊢
  obtain ⟨i0, hi, hz⟩ : ∃ i, Tryz.prog.info? 2 = some i ∧ (i.zero, i.size, i.bytes) = (some (.int .i64 0), 1, 8) := by
    have := info_i64L
    cases q : Tryz.prog.info? 2 with
    | none => rw [q] at this; cases this
    | some i => rw [q] at this; exact ⟨i, rfl, Option.some.inj this⟩
  simp only [Prod.mk.injEq] at hz
  obtain ⟨hz0, hz1, hz2⟩ := hz
  have hlit := fun w => run_lit1L key w
  have hlt : b < w.heap.size := H.out.2.1.lt
  obtain ⟨⟨c0, c1, c2, c3, c4⟩, f0, f1, f2, f3, f4⟩ := H.out.2.1
  have HO : Hid (OwnM (w.alloc (.cells #[.int .i64 key] 2)) (b + 1) 2 1 (.slice a1 xs.length a2) xs.length xs) := OwnM.later (show OwnM w (b + 1) 2 1 (.slice a1 xs.length a2) xs.length xs from H.out.2.2.1) (below_alloc _ _)
  have HRW : Hid (Row (w.alloc (.cells #[.int .i64 key] 2)) w.heap.size 1 1 (fun p => [key].getD p 0) (.slice (some ⟨w.heap.size, 0, none⟩) 1 1)) := row_lit1 w key
  clear hb hP hbq hv
  go_enter Tryz.func104, Tryz.ntmps104
  go_wp2
  go_loopw [8, 9] (fun sn i wr => ∃ k : Nat, k ≤ xs.length ∧ i = .int .i64 k ∧ (∃ t, Hid (decide (key ∈ xs.take k) = t) ∧ sn = .bool t) ∧ wr = w) (fun _ i _ => xs.length - (intOf i).toNat)
  case atStart => exact ⟨0, Nat.zero_le _, rfl, ⟨false, by unfold Hid; simp, rfl⟩, rfl⟩
  case round =>
    obtain ⟨k, hk, rfl, ⟨t, HT, rfl⟩, rfl⟩ := hrel
    by_cases hlt2 : k < xs.length
    · obtain ⟨g, rfl, _, hc, _⟩ := H.out.2.2.1.at hlt2
      cases t with
      | true =>
        have HT' : Hid (decide (key ∈ xs.take (k + 1)) = true) := by unfold Hid; rw [take_in hlt2, HT.out]; rfl
        clear HT
        go_wp2
        go_roundw
        case rel => exact ⟨k + 1, by omega, by go_num, ⟨true, HT', rfl⟩, trivial⟩
        case measure => simp [intOf]; omega
      | false =>
        obtain ⟨z, hz⟩ : ∃ z, xs[k] = z := ⟨_, rfl⟩
        have HT' : Hid (decide (key ∈ xs.take (k + 1)) = (z == key)) := by unfold Hid; rw [take_in hlt2, HT.out, hz]; rfl
        rw [hz] at hc
        clear HT hz
        go_wp2
        go_roundw
        case rel => exact ⟨k + 1, by omega, by go_num, ⟨_, HT', rfl⟩, trivial⟩
        case measure => simp [intOf]; omega
    · obtain rfl : k = xs.length := by omega
      rw [List.take_length] at HT
      cases t with
      | true =>
        have HA : Hid (addR xs key = xs) := if_pos (of_decide_eq_true HT.out)
        go_wp2_with fail
        refine (l11Value_any Lp y 0 key _ (HV.out _ H.out.1) hn).mono ?_
        rintro e w9 ⟨rfl, hw9⟩
        obtain rfl := hw9.symm
        go_wp2
        go_ret2
        refine ⟨rfl, ?_⟩
        unfold StP
        rw [HQ.out, HA.out]
        exact ⟨H.out.1, _, _, H.out.2⟩
      | false =>
        have HA : Hid (addR xs key = xs ++ [key]) := if_neg (of_decide_eq_false HT.out)
        go_wp2_with (first | (at_builtin; refine wpList_appL 2 i0 (.int .i64 0) 1 8 rfl _ _ 39 rfl Tryz.underlying39 hi hz0 hz1 hz2 rfl (by omega) (by omega) _ (b + 1) xs.length xs (.slice a1 xs.length a2) rfl HO.out wr.heap.size 1 (fun p => [key].getD p 0) _ rfl HRW.out (by omega) (by simp; omega) ?_; intro ao1 cp1 w6 O6 G6 N6; have HH : Hid (_ ∧ _ ∧ _) := pln_reads H.out.2 O6 G6 N6; obtain ⟨⟨d0, d1, d2, d3, d4⟩, g0, g1, g2, g3, g4⟩ := HH.out.1; clear O6 G6 N6 c0 c1 c2 c3 c4 f0 f1 f2 f3 f4 HO HRW hlit) | fail)
        refine (l11Value_any Lp y 0 key _ (HV.out _ (H.out.1.trans HH.out.2.2)) hn).mono ?_
        rintro e w9 ⟨rfl, hw9⟩
        obtain rfl := hw9.symm
        go_wp2
        go_ret2
        refine ⟨rfl, ?_⟩
        unfold StP
        rw [HQ.out, HA.out]
        exact ⟨H.out.1.trans HH.out.2.2, _, _, HH.out.2.1⟩
end Go.Proofs.YtnchaccgenfhoaaGreat

namespace Go.Proofs.YtnchaccgenfhoaaGreat
open Go.RowKit

theorem kE_ok {d m : Int} (hd : 0 ≤ d ∧ d ≤ 9) (hm : 0 ≤ m ∧ m ≤ 5) : faultOf (kE d m) = 0 := by
  obtain ⟨d', rfl⟩ := Int.eq_ofNat_of_zero_le hd.1
  obtain ⟨m', rfl⟩ := Int.eq_ofNat_of_zero_le hm.1
  have h1 : d' < 10 := by omega
  have h2 : m' < 6 := by omega
  have : ∀ a, a < 10 → ∀ b, b < 6 → faultOf (kE (a : Nat) (b : Nat)) = 0 := by decide
  exact this d' h1 m' h2
end Go.Proofs.YtnchaccgenfhoaaGreat

namespace Go.Proofs.YtnchaccgenfhoaaGreat
open Go.RowKit Go.Maps

theorem run_mapL (w : World) : (Instr.makeMap 113 none).run Tryz.prog w = .ok (.map (some w.heap.size)) (w.alloc (.map #[] 0)) := by
  first | kernel_rfl | rfl
set_option maxRecDepth 100000 in
set_option maxHeartbeats 2000000 in
theorem lookAt_is (L : Prs) (v : Value) (B : Nat) (w : World) (h : Row w B 2 L.length (rowL L) v) (hr : Rises L) (hn : L.length ≤ 800) :
    Calls Tryz.prog 35 #[v] w fun e w' => ∃ b rb mb, e = .returned (.pointer (some ⟨b, 0, none⟩)) ∧ Looks w' b rb mb L [] (.slice none 0 0) ∧ w.heap.size ≤ rb ∧ Below w.heap.size w w' := by
  have H : Hid (Row w B 2 L.length (rowL L) v ∧ Rises L) := ⟨h, hr⟩
  have hmk := fun w => run_mapL w
  clear h hr
  go_enter Tryz.func35, Tryz.ntmps35
  go_wp2_with fail
  refine (filled_any L v B _ H.out.1 H.out.2 hn).mono ?_
  rintro e w1 ⟨rb, rfl, hrb, hris, q1⟩
  have H1 : Hid (Ris w1 rb L ∧ w.heap.size ≤ rb ∧ Below w.heap.size w w1) := ⟨hris, hrb, q1⟩
  clear hris hrb q1 H
  go_wp2
  go_ret
  have hb2 : Below w1.heap.size w1 ((w1.alloc (.map #[] 0)).alloc (.cells #[.pointer (some ⟨rb, 0, none⟩), .map (some w1.heap.size), .slice none 0 0] 115)) := (below_alloc _ _).alloc (by simp) _
  have hz := Blk3.new (w1.alloc (.map #[] 0)) (.pointer (some ⟨rb, 0, none⟩)) (.map (some w1.heap.size)) (.slice none 0 0) 115
  rw [World.size_alloc] at hz
  obtain ⟨v0, r1, r2⟩ := H1.out.1
  refine ⟨w1.heap.size + 1, rb, w1.heap.size, rfl, ⟨hz, ⟨v0, r1.later hb2, r2.later hb2, fun k hk => (own_in r2 k hk).2⟩, ((SM.made w1).later (below_alloc _ _)).congr (fun x => rfl), Ints.nil _ _, r1.lt, Nat.lt_succ_self _⟩, H1.out.2.1, H1.out.2.2.trans (hb2.mono H1.out.2.2.size)⟩
/-- Whether an inode's value is that of a directory. -/
def dirB (L : Prs) (a : Int) : Bool := (lookF L (kI a)).2 == 1000
theorem field_sight1 (h : Bool) (v : Int) (w : World) : (Instr.field 102 (.agg #[.bool h, .int .i64 v]) 1).run Tryz.prog w = .ok (.int .i64 v) w := by kernel_rfl
theorem field_sight0 (h : Bool) (v : Int) (w : World) : (Instr.field 102 (.agg #[.bool h, .int .i64 v]) 0).run Tryz.prog w = .ok (.bool h) w := by kernel_rfl
set_option maxRecDepth 100000 in
set_option maxHeartbeats 2000000 in
theorem isDir_is (L : Prs) (b rb mb : Nat) (xs : List Int) (vr : Value) (a : Int) (w : World) (h : Looks w b rb mb L xs vr) (hrs : Rises L) (hn : L.length ≤ 1000) (ha : 0 ≤ a ∧ a ≤ 9) (hx : xs.length ≤ 1000) :
    Calls Tryz.prog 36 #[.pointer (some ⟨b, 0, none⟩), .int .i64 a] w fun e w' => e = .returned (.bool (dirB L a)) ∧ ∃ vr', Looks w' b rb mb L (addR xs (kI a)) vr' ∧ Keeps w w' b mb vr vr' := by
  have H : Hid (Looks w b rb mb L xs vr ∧ Rises L ∧ (0 ≤ a ∧ a ≤ 9)) := ⟨h, hrs, ha⟩
  have fs := fun h v w => field_sight1 h v w
  clear h hrs ha
  go_enter Tryz.func36, Tryz.ntmps36
  go_wp2_with fail
  refine (inodeKey_is a H.out.2.2 _).mono ?_
  rintro e w1 ⟨rfl, q1⟩
  have H1 : Hid (Looks w1 b rb mb L xs vr ∧ Keeps w w1 b mb vr vr) := ⟨H.out.1.later q1, Keeps.below _ _ _ q1⟩
  clear q1
  go_wp2_with fail
  refine (look_is L b rb mb xs vr (kI a) _ H1.out.1 H.out.2.1 hn (by have := H.out.2.2; unfold kI; omega) hx).mono ?_
  rintro e w2 ⟨rfl, vr', l2, k2⟩
  have H2 : Hid (Looks w2 b rb mb L (addR xs (kI a)) vr' ∧ Keeps w w2 b mb vr vr') := ⟨l2, H1.out.2.trans k2⟩
  clear l2 k2 H1
  go_wp2
  go_ret
  exact ⟨rfl, vr', H2.out.1, H2.out.2⟩
set_option maxRecDepth 100000 in
set_option maxHeartbeats 2000000 in
theorem l13Dir_is (L : Prs) (v : Value) (B : Nat) (a : Int) (w : World) (h : Row w B 2 L.length (rowL L) v) (hn : L.length ≤ 1048576) (ha : 0 ≤ a ∧ a ≤ 9) :
    Calls Tryz.prog 55 #[v, .int .i64 a] w fun e w' => e = .returned (.bool (dirB L a)) ∧ w' = w := by
  have H : Hid (Row w B 2 L.length (rowL L) v ∧ (0 ≤ a ∧ a ≤ 9)) := ⟨h, ha⟩
  obtain ⟨s, hs⟩ : ∃ s, lookF L (kI a) = s := ⟨_, rfl⟩
  obtain ⟨r, z⟩ := s
  have HS : Hid (lookF L (kI a) = (r, z)) := hs
  have HZ : Hid (r = false → z = 0) := fun e => by
    subst e
    unfold lookF at hs
    split at hs
    · simp at hs
    · simp at hs; exact hs.symm
  unfold dirB
  rw [hs]
  clear h ha hs
  go_enter Tryz.func55, Tryz.ntmps55
  go_wp2_with fail
  refine (ofI_is a H.out.2 _).mono ?_
  rintro e w9 ⟨rfl, hw9⟩
  obtain rfl := hw9.symm
  go_wp2_with fail
  refine (l11Value_any L v B (kI a) _ H.out.1 hn).mono ?_
  rintro e w9 ⟨rfl, hw9⟩
  obtain rfl := hw9.symm
  rw [HS.out]
  cases r with
  | true =>
    go_wp2
    go_ret
    exact ⟨rfl, rfl⟩
  | false =>
    obtain rfl := HZ.out rfl
    go_wp2
    go_ret
    exact ⟨rfl, rfl⟩
end Go.Proofs.YtnchaccgenfhoaaGreat

namespace Go.Proofs.YtnchaccgenfhoaaGreat
open Go.RowKit

/-- A reply, a value, what was read, what would be written (how many, and all their numbers). -/
abbrev PRf := Int × Int × List Int × Nat × List Int
def makeP (L : Prs) (kd d n : Int) (xs : List Int) : PRf :=
  if 1 ≤ (lookF L 0).2 ∧ (lookF L 0).2 ≤ 9 then (0, (lookF L 0).2, addR xs 0, 3, [0, 1, (lookF L 0).2 + 1, kI (lookF L 0).2, 1, if kd = 1 then 2001 else 1000, kE d n, 1, (lookF L 0).2]) else (2, 0, addR xs 0, 0, [])
def targetP (L : Prs) (td tn : Int) (xs : List Int) : Int × List Int :=
  if dirB L td = true then (if (lookF L (kE td tn)).1 = true then 6 else 0, addR (addR xs (kI td)) (kE td tn)) else (9, addR xs (kI td))
def emptyP (L : Prs) (c : Int) : Nat → Int → List Int → Bool × List Int
  | 0, _, xs => (true, xs)
  | j + 1, i, xs => if (lookF L (kE c i)).1 = true then (false, addR xs (kE c i)) else emptyP L c j (i + 1) (addR xs (kE c i))
def removeP (L : Prs) (d n c cv : Int) (xs : List Int) : PRf :=
  if cv = 1000 then (if (emptyP L c 6 0 xs).1 = true then (0, 0, (emptyP L c 6 0 xs).2, 2, [kE d n, 2, 0, kI c, 2, 0]) else (1, 0, (emptyP L c 6 0 xs).2, 0, []))
  else if 2001 < cv then (0, 0, xs, 2, [kE d n, 2, 0, kI c, 1, cv - 1]) else (0, 0, xs, 3, [kE d n, 2, 0, kI c, 2, 0, kB c, 2, 0])
def moveP (L : Prs) (d n td tn c cv : Int) (xs : List Int) : PRf :=
  if cv = 1000 ∧ td ≠ d then (10, 0, xs, 0, []) else if (targetP L td tn xs).1 = 0 then (0, 0, (targetP L td tn xs).2, 2, [kE d n, 2, 0, kE td tn, 1, c]) else ((targetP L td tn xs).1, 0, (targetP L td tn xs).2, 0, [])
def linkP (L : Prs) (td tn c cv : Int) (xs : List Int) : PRf :=
  if cv = 1000 then (9, 0, xs, 0, []) else if (targetP L td tn xs).1 = 0 then (if 2099 ≤ cv then (2, 0, (targetP L td tn xs).2, 0, []) else (0, 0, (targetP L td tn xs).2, 2, [kI c, 1, cv + 1, kE td tn, 1, c])) else ((targetP L td tn xs).1, 0, (targetP L td tn xs).2, 0, [])
def minC (ch : Int) : Int := if ch < 9 then ch else 9
def childP (L : Prs) (kd d n td tn vv ch : Int) (xs : List Int) : PRf :=
  if kd = 3 then removeP L d n (minC ch) (lookF L (kI (minC ch))).2 (addR xs (kI (minC ch)))
  else if kd = 4 then moveP L d n td tn (minC ch) (lookF L (kI (minC ch))).2 (addR xs (kI (minC ch)))
  else if kd = 5 then linkP L td tn (minC ch) (lookF L (kI (minC ch))).2 (addR xs (kI (minC ch)))
  else if kd = 8 then (0, (lookF L (kI (minC ch))).2, addR xs (kI (minC ch)), 0, [])
  else if (lookF L (kI (minC ch))).2 = 1000 then (9, 0, addR xs (kI (minC ch)), 0, [])
  else if kd = 6 then (0, 0, addR xs (kI (minC ch)), 1, [kB (minC ch), 1, vv])
  else (0, (lookF L (kB (minC ch))).2, addR (addR xs (kI (minC ch))) (kB (minC ch)), 0, [])
def replyP (L : Prs) (kd d n td tn vv : Int) : PRf :=
  if dirB L d = true then
    (if kd = 1 ∨ kd = 2 then (if (lookF L (kE d n)).1 = true then (6, 0, addR (addR [] (kI d)) (kE d n), 0, []) else makeP L kd d n (addR (addR [] (kI d)) (kE d n)))
    else if (lookF L (kE d n)).1 = true then childP L kd d n td tn vv (lookF L (kE d n)).2 (addR (addR [] (kI d)) (kE d n)) else (4, 0, addR (addR [] (kI d)) (kE d n), 0, []))
  else (9, 0, addR [] (kI d), 0, [])
/-- Six cells at a place of a block, none frozen. -/
def Blk6O (x : World) (b oo : Nat) (a0 a1 a2 a3 a4 a5 : Value) : Prop :=
  (x.cell? ⟨b, oo, none⟩ = some a0 ∧ x.cell? ⟨b, oo + 1, none⟩ = some a1 ∧ x.cell? ⟨b, oo + 2, none⟩ = some a2 ∧ x.cell? ⟨b, oo + 3, none⟩ = some a3 ∧ x.cell? ⟨b, oo + 4, none⟩ = some a4 ∧ x.cell? ⟨b, oo + 5, none⟩ = some a5) ∧ True
theorem Blk6O.lt {x : World} {b oo : Nat} {a0 a1 a2 a3 a4 a5 : Value} (h : Blk6O x b oo a0 a1 a2 a3 a4 a5) : b < x.heap.size := World.block_lt_of_cell? x _ h.1.1
theorem Blk6O.kept {x x' : World} {b oo : Nat} {a0 a1 a2 a3 a4 a5 : Value} (h : Blk6O x b oo a0 a1 a2 a3 a4 a5) (hb : x'.heap[b]? = x.heap[b]?) : Blk6O x' b oo a0 a1 a2 a3 a4 a5 := by
  obtain ⟨⟨h0, h1, h2, h3, h4, h5⟩, _⟩ := h
  exact ⟨⟨(World.cell?_of_block (w := x) (a := ⟨b, oo, none⟩) hb).trans h0, (World.cell?_of_block (w := x) (a := ⟨b, oo + 1, none⟩) hb).trans h1, (World.cell?_of_block (w := x) (a := ⟨b, oo + 2, none⟩) hb).trans h2, (World.cell?_of_block (w := x) (a := ⟨b, oo + 3, none⟩) hb).trans h3, (World.cell?_of_block (w := x) (a := ⟨b, oo + 4, none⟩) hb).trans h4, (World.cell?_of_block (w := x) (a := ⟨b, oo + 5, none⟩) hb).trans h5⟩, trivial⟩
theorem Blk6O.later {x x' : World} {b oo : Nat} {a0 a1 a2 a3 a4 a5 : Value} (h : Blk6O x b oo a0 a1 a2 a3 a4 a5) (hb : Below x.heap.size x x') : Blk6O x' b oo a0 a1 a2 a3 a4 a5 := h.kept (hb.block b h.lt)
theorem Blk6O.alloc {x : World} {b oo : Nat} {a0 a1 a2 a3 a4 a5 : Value} (h : Blk6O x b oo a0 a1 a2 a3 a4 a5) (o : Obj) : Blk6O (x.alloc o) b oo a0 a1 a2 a3 a4 a5 := h.later (below_alloc _ _)
theorem Blk6.toO {x : World} {b : Nat} {a0 a1 a2 a3 a4 a5 : Value} (h : Blk6 x b a0 a1 a2 a3 a4 a5) : Blk6O x b 0 a0 a1 a2 a3 a4 a5 := ⟨h.1, trivial⟩
/-- What stands while the model works on a plan: the view, the operation, all within their bounds. -/
def Ctx (w0 : World) (L : Prs) (y : Value) (bo oo : Nat) (kd d n td tn vv : Int) : Prop :=
  (Row w0 0 2 L.length (rowL L) y ∧ L.length ≤ 1000) ∧ Blk6O w0 bo oo (.int .i64 kd) (.int .i64 d) (.int .i64 n) (.int .i64 td) (.int .i64 tn) (.int .i64 vv) ∧ (∀ k, 0 ≤ (lookF L k).2 ∧ (lookF L k).2 ≤ 9999) ∧ (0 ≤ d ∧ d ≤ 9) ∧ (0 ≤ n ∧ n ≤ 5) ∧ (0 ≤ td ∧ td ≤ 9) ∧ (0 ≤ tn ∧ tn ≤ 5)
theorem Ctx.op {w0 w : World} {L : Prs} {y : Value} {bo oo : Nat} {kd d n td tn vv v : Int} {xs : List Int} {m : Nat} {W : List Int} (h : Ctx w0 L y bo oo kd d n td tn vv) (hs : StP w0 w v xs m W) : Blk6O w bo oo (.int .i64 kd) (.int .i64 d) (.int .i64 n) (.int .i64 td) (.int .i64 tn) (.int .i64 vv) := h.2.1.later hs.1
theorem addR_len (xs : List Int) (k : Int) : (addR xs k).length ≤ xs.length + 1 := by
  unfold addR
  split
  · omega
  · simp
theorem StP.value {w0 w : World} {v : Int} {xs : List Int} {m : Nat} {W : List Int} (h : StP w0 w v xs m W) (z : Int) : StP w0 (w.setCell ⟨w0.heap.size, 2, none⟩ (.int .i64 z)) z xs m W := by
  obtain ⟨h1, vr, vw, h2, h3⟩ := h
  have hi : OwnM w (w0.heap.size + 1) 2 1 vr xs.length xs := h3.1
  exact ⟨h1.setCell (Nat.le_refl _) _, vr, vw, h2.set2 _, OwnM.keptB hi (fun k hk => Below.heap_setCell w ⟨w0.heap.size, 2, none⟩ _ k (by have := (OwnM.block hi k hk).1; simp; omega)), OwnM.keptB h3.2.1 (fun k hk => Below.heap_setCell w ⟨w0.heap.size, 2, none⟩ _ k (by have := (OwnM.block h3.2.1 k hk).1; simp; omega)), h3.2.2⟩
abbrev opB (x : World) (bo : Nat) (kd d n td tn vv : Int) : Prop := Blk6 x bo (.int .i64 kd) (.int .i64 d) (.int .i64 n) (.int .i64 td) (.int .i64 tn) (.int .i64 vv)
abbrev opBO (x : World) (bo oo : Nat) (kd d n td tn vv : Int) : Prop := Blk6O x bo oo (.int .i64 kd) (.int .i64 d) (.int .i64 n) (.int .i64 td) (.int .i64 tn) (.int .i64 vv)
theorem StP.drew {w0 w : World} {v : Int} {xs : List Int} {m : Nat} {W : List Int} (h : StP w0 w v xs m W) : StP w0 w.drew v xs m W := h.later ⟨rfl, rfl, rfl, Nat.le_refl _, fun _ _ => rfl⟩
set_option maxRecDepth 100000 in
set_option maxHeartbeats 4000000 in
theorem l13Make_is (L : Prs) (y : Value) (bo oo : Nat) (kd d n td tn vv : Int) (w0 w : World) (xs : List Int) (hc : Ctx w0 L y bo oo kd d n td tn vv) (hs : StP w0 w 0 xs 0 []) (hx : xs.length ≤ 900) (r v : Int) (ys : List Int) (m : Nat) (W : List Int) (hp : makeP L kd d n xs = (r, v, ys, m, W)) :
    Calls Tryz.prog 105 #[.pointer (some ⟨w0.heap.size, 0, none⟩), y, .pointer (some ⟨bo, oo, none⟩)] w fun e w' => e = .returned (.int .i64 r) ∧ StP w0 w' v ys m W := by
  have HC : Hid (Ctx w0 L y bo oo kd d n td tn vv) := hc
  have HS : Hid (StP w0 w 0 xs 0 []) := hs
  have hl := hc.1.2
  obtain ⟨s, hsq⟩ : ∃ s, lookF L 0 = s := ⟨_, rfl⟩
  obtain ⟨sh, sz⟩ := s
  have HL : Hid (lookF L 0 = (sh, sz)) := hsq
  unfold makeP at hp
  rw [hsq] at hp
  clear hc hs hsq
  by_cases h1 : 1 ≤ sz ∧ sz ≤ 9
  case neg =>
    rw [if_neg h1] at hp
    simp only [Prod.mk.injEq] at hp
    obtain ⟨rfl, rfl, rfl, rfl, rfl⟩ := hp
    have D : Hid (decide (1 ≤ sz ∧ sz ≤ 9) = false) := decide_eq_false h1
    clear h1
    go_enter Tryz.func105, Tryz.ntmps105
    go_wp2_with fail
    refine (l13Read_is 0 L y w0 _ 0 xs 0 [] HC.out.1.1 (by omega) HS.out (by omega)).mono ?_
    rintro e w1 ⟨rfl, s1⟩
    have S1 : Hid (StP w0 w1 0 (addR xs 0) 0 []) := s1
    rw [HL.out]
    clear s1
    go_wp2_with fail
    refine (inT_is _ _ _ _ D.out _).mono ?_
    rintro e w9 ⟨rfl, hw9⟩
    obtain rfl := hw9.symm
    go_wp2
    go_ret
    exact ⟨rfl, S1.out⟩
  rw [if_pos h1] at hp
  simp only [Prod.mk.injEq] at hp
  obtain ⟨rfl, rfl, rfl, rfl, rfl⟩ := hp
  have D : Hid (decide (1 ≤ sz ∧ sz ≤ 9) = true) := decide_eq_true h1
  have hsz : Hid (0 ≤ sz ∧ sz ≤ 9) := ⟨by omega, h1.2⟩
  have h9 := h1.2
  have h8 := h1.1
  clear h1
  obtain ⟨kk, hkk⟩ : ∃ kk : Int, (if kd = 1 then (2001 : Int) else 1000) = kk := ⟨_, rfl⟩
  have HKK : Hid ((if kd = 1 then (2001 : Int) else 1000) = kk) := hkk
  rw [hkk]
  clear hkk
  go_enter Tryz.func105, Tryz.ntmps105
  go_wp2_with fail
  refine (l13Read_is 0 L y w0 _ 0 xs 0 [] HC.out.1.1 (by omega) HS.out (by omega)).mono ?_
  rintro e w1 ⟨rfl, s1⟩
  have S1 : Hid (StP w0 w1 0 (addR xs 0) 0 []) := s1
  rw [HL.out]
  obtain ⟨⟨o0, o1, o2, o3, o4, o5⟩, _⟩ := HC.out.op s1
  clear s1
  go_wp2_with fail
  refine (inT_is _ _ _ _ D.out _).mono ?_
  rintro e w9 ⟨rfl, hw9⟩
  obtain rfl := hw9.symm
  by_cases hk1 : kd = 1
  focus
    subst hk1
    obtain rfl : (2001 : Int) = kk := HKK.out
    clear HKK
  rotate_left
  focus
    have ek : (kd == 1) = false := beq_eq_false_iff_ne.2 hk1
    obtain rfl : (1000 : Int) = kk := (if_neg hk1).symm.trans HKK.out
    clear HKK hk1
  rotate_left
  all_goals
    go_wp2_with fail
    refine (l13Put_is 0 (sz + 1) w0 _ 0 (addR xs 0) 0 [] S1.out (by omega)).mono ?_
    rintro e w2 ⟨rfl, s2⟩
    have S2 : Hid (StP w0 w2 0 (addR xs 0) 1 [0, 1, sz + 1]) := s2
    clear s2 o0 o1 o2 o3 o4 o5
    go_wp2_with fail
    refine (ofI_is sz hsz.out _).mono ?_
    rintro e w9 ⟨rfl, hw9⟩
    obtain rfl := hw9.symm
    go_wp2_with fail
    refine (l13Put_is (kI sz) _ w0 _ 0 (addR xs 0) 1 _ S2.out (by omega)).mono ?_
    rintro e w3 ⟨rfl, s3⟩
    have S3 : Hid (StP w0 w3 0 (addR xs 0) 2 _) := s3
    clear s3
    go_upto_region 9 with fail
    refine wp_region_held_drew (S := fun X => opBO X bo oo _ d n td tn vv) (by kernel_rfl) (HC.out.op S3.out.drew) (fun hS => ?_)
    refine tkH 0 ?_ hS (fun wx hx => ?_) ?_; rotate_left
    · obtain ⟨⟨hx0, hx1, hx2, hx3, hx4, hx5⟩, _⟩ := hx; go_simp; try with_reducible rfl
    refine tkH 1 ?_ hS (fun wx hx => ?_) ?_; rotate_left
    · obtain ⟨⟨hx0, hx1, hx2, hx3, hx4, hx5⟩, _⟩ := hx; go_simp; try with_reducible rfl
    refine tkH 2 ?_ hS (fun wx hx => ?_) ?_; rotate_left
    · obtain ⟨⟨hx0, hx1, hx2, hx3, hx4, hx5⟩, _⟩ := hx; go_simp; try with_reducible rfl
    refine tkH 3 ?_ hS (fun wx hx => ?_) ?_; rotate_left
    · obtain ⟨⟨hx0, hx1, hx2, hx3, hx4, hx5⟩, _⟩ := hx; go_simp; try with_reducible rfl
    refine tkH 4 ?_ hS (fun wx hx => ?_) ?_; rotate_left
    · obtain ⟨⟨hx0, hx1, hx2, hx3, hx4, hx5⟩, _⟩ := hx; go_simp; try with_reducible rfl
    refine tkH 5 ?_ hS (fun wx hx => ?_) ?_; rotate_left
    · obtain ⟨⟨hx0, hx1, hx2, hx3, hx4, hx5⟩, _⟩ := hx; go_simp; try with_reducible rfl
    refine tkH 6 ?_ hS (fun wx hx => ?_) ?_; rotate_left
    · obtain ⟨⟨hx0, hx1, hx2, hx3, hx4, hx5⟩, _⟩ := hx; go_simp; try with_reducible rfl
    refine tkH 7 ?_ hS (fun wx hx => ?_) ?_; rotate_left
    · obtain ⟨⟨hx0, hx1, hx2, hx3, hx4, hx5⟩, _⟩ := hx; go_simp; try with_reducible rfl
    refine tkH 8 ?_ hS (fun wx hx => ?_) ?_; rotate_left
    · obtain ⟨⟨hx0, hx1, hx2, hx3, hx4, hx5⟩, _⟩ := hx; go_simp; try with_reducible rfl
    refine tkH 10 ?_ hS (fun wx hx => ?_) ?_; rotate_left
    · obtain ⟨⟨hx0, hx1, hx2, hx3, hx4, hx5⟩, _⟩ := hx; go_simp; try with_reducible rfl
    refine rdH 9 (fun K hK => ?_)
    go_simp
    go_wp2_with fail
    refine (ofE_is d n HC.out.2.2.2.1 HC.out.2.2.2.2.1 _).mono ?_
    rintro e w9 ⟨rfl, hw9⟩
    obtain rfl := hw9.symm
    go_wp2_with fail
    refine hK.out _ _ hS (fun hS => ?_)
    clear hK K
    refine rdH 11 (fun K hK => ?_)
    go_simp
    go_wp2_with fail
    refine (l13Put_is (kE d n) sz w0 _ 0 (addR xs 0) 2 _ (StP.drew S3.out) (by omega)).mono ?_
    rintro e w4 ⟨rfl, s4⟩
    have S4 : Hid (StP w0 w4 0 (addR xs 0) 3 _) := s4
    have hS4 := HC.out.op s4
    clear s4
    go_wp2_with fail
    refine hK.out _ _ hS4 (fun hS => ?_)
    clear hK K
    refine wpAnyH_done (by kernel_rfl) ?_ _
    go_simp
    obtain ⟨q0, vr, vw, ⟨⟨c0, c1, c2, c3, c4⟩, f0, f1, f2, f3, f4⟩, _⟩ := S4.out
    go_wp2
    go_ret
    exact ⟨rfl, S4.out.value sz⟩
end Go.Proofs.YtnchaccgenfhoaaGreat

namespace Go.Proofs.YtnchaccgenfhoaaGreat
open Go.RowKit

theorem dir_iff {L : Prs} {a : Int} {r : Bool} {z : Int} (hs : lookF L (kI a) = (r, z)) : dirB L a = (z == 1000) := by unfold dirB; rw [hs]
theorem look_zero {L : Prs} {k : Int} {z : Int} (hs : lookF L k = (false, z)) : z = 0 := by
  unfold lookF at hs
  split at hs
  · simp at hs
  · simp at hs; exact hs.symm
set_option maxRecDepth 100000 in
set_option maxHeartbeats 4000000 in
theorem l13Target_is (L : Prs) (y : Value) (bo oo : Nat) (kd d n td tn vv : Int) (w0 w : World) (v : Int) (xs : List Int) (m : Nat) (W : List Int) (hc : Ctx w0 L y bo oo kd d n td tn vv) (hs : StP w0 w v xs m W) (hx : xs.length ≤ 900) (r : Int) (ys : List Int) (hp : targetP L td tn xs = (r, ys)) :
    Calls Tryz.prog 134 #[.pointer (some ⟨w0.heap.size, 0, none⟩), y, .pointer (some ⟨bo, oo, none⟩)] w fun e w' => e = .returned (.int .i64 r) ∧ StP w0 w' v ys m W := by
  have HC : Hid (Ctx w0 L y bo oo kd d n td tn vv) := hc
  have HS : Hid (StP w0 w v xs m W) := hs
  have hl := hc.1.2
  obtain ⟨⟨o0, o1, o2, o3, o4, o5⟩, _⟩ := hc.op hs
  obtain ⟨s, hsq⟩ : ∃ s, lookF L (kI td) = s := ⟨_, rfl⟩
  obtain ⟨sh, sz⟩ := s
  have HL : Hid (lookF L (kI td) = (sh, sz)) := hsq
  have hlen := addR_len xs (kI td)
  unfold targetP at hp
  rw [dir_iff hsq] at hp
  clear hc hs hsq
  by_cases h1 : (sz == 1000) = true
  case neg =>
    rw [if_neg h1] at hp
    simp only [Prod.mk.injEq] at hp
    obtain ⟨rfl, rfl⟩ := hp
    have e1 : (sz != 1000) = true := by simpa [bne] using h1
    clear h1
    go_enter Tryz.func134, Tryz.ntmps134
    go_wp2_with fail
    refine (ofI_is td HC.out.2.2.2.2.2.1 _).mono ?_
    rintro e w9 ⟨rfl, hw9⟩
    obtain rfl := hw9.symm
    go_wp2_with fail
    refine (l13Read_is (kI td) L y w0 _ v xs m W HC.out.1.1 (by omega) HS.out (by omega)).mono ?_
    rintro e w1 ⟨rfl, s1⟩
    have S1 : Hid (StP w0 w1 v (addR xs (kI td)) m W) := s1
    rw [HL.out]
    clear s1 o0 o1 o2 o3 o4 o5
    cases sh with
    | true =>
      go_wp2
      go_ret
      exact ⟨rfl, S1.out⟩
    | false =>
      go_wp2
      go_ret
      exact ⟨rfl, S1.out⟩
  rw [if_pos h1] at hp
  simp only [Prod.mk.injEq] at hp
  obtain ⟨hr, rfl⟩ := hp
  obtain rfl : sz = 1000 := by simpa using h1
  obtain rfl : sh = true := by
    cases sh with
    | true => rfl
    | false => have := look_zero HL.out; omega
  clear h1
  obtain ⟨t, htq⟩ : ∃ t, lookF L (kE td tn) = t := ⟨_, rfl⟩
  obtain ⟨th, tz⟩ := t
  have HT : Hid (lookF L (kE td tn) = (th, tz)) := htq
  rw [htq] at hr
  have HR : Hid ((if th = true then (6 : Int) else 0) = r) := hr
  clear htq hr
  go_enter Tryz.func134, Tryz.ntmps134
  go_wp2_with fail
  refine (ofI_is td HC.out.2.2.2.2.2.1 _).mono ?_
  rintro e w9 ⟨rfl, hw9⟩
  obtain rfl := hw9.symm
  go_wp2_with fail
  refine (l13Read_is (kI td) L y w0 _ v xs m W HC.out.1.1 (by omega) HS.out (by omega)).mono ?_
  rintro e w1 ⟨rfl, s1⟩
  have S1 : Hid (StP w0 w1 v (addR xs (kI td)) m W) := s1
  rw [HL.out]
  clear s1 o0 o1 o2 o3 o4 o5
  go_upto_region 4 with fail
  refine wp_region_held_drew (S := fun X => opBO X bo oo kd d n td tn vv) (by kernel_rfl) (HC.out.op S1.out.drew) (fun hS => ?_)
  refine tkH 0 ?_ hS (fun wx hx => ?_) ?_; rotate_left
  · obtain ⟨⟨hx0, hx1, hx2, hx3, hx4, hx5⟩, _⟩ := hx; go_simp; try with_reducible rfl
  refine tkH 1 ?_ hS (fun wx hx => ?_) ?_; rotate_left
  · obtain ⟨⟨hx0, hx1, hx2, hx3, hx4, hx5⟩, _⟩ := hx; go_simp; try with_reducible rfl
  refine tkH 2 ?_ hS (fun wx hx => ?_) ?_; rotate_left
  · obtain ⟨⟨hx0, hx1, hx2, hx3, hx4, hx5⟩, _⟩ := hx; go_simp; try with_reducible rfl
  refine tkH 3 ?_ hS (fun wx hx => ?_) ?_; rotate_left
  · obtain ⟨⟨hx0, hx1, hx2, hx3, hx4, hx5⟩, _⟩ := hx; go_simp; try with_reducible rfl
  refine tkH 4 ?_ hS (fun wx hx => ?_) ?_; rotate_left
  · obtain ⟨⟨hx0, hx1, hx2, hx3, hx4, hx5⟩, _⟩ := hx; go_simp; try with_reducible rfl
  refine tkH 5 ?_ hS (fun wx hx => ?_) ?_; rotate_left
  · obtain ⟨⟨hx0, hx1, hx2, hx3, hx4, hx5⟩, _⟩ := hx; go_simp; try with_reducible rfl
  refine tkH 6 ?_ hS (fun wx hx => ?_) ?_; rotate_left
  · obtain ⟨⟨hx0, hx1, hx2, hx3, hx4, hx5⟩, _⟩ := hx; go_simp; try with_reducible rfl
  refine tkH 7 ?_ hS (fun wx hx => ?_) ?_; rotate_left
  · obtain ⟨⟨hx0, hx1, hx2, hx3, hx4, hx5⟩, _⟩ := hx; go_simp; try with_reducible rfl
  refine tkH 8 ?_ hS (fun wx hx => ?_) ?_; rotate_left
  · obtain ⟨⟨hx0, hx1, hx2, hx3, hx4, hx5⟩, _⟩ := hx; go_simp; try with_reducible rfl
  refine tkH 9 ?_ hS (fun wx hx => ?_) ?_; rotate_left
  · obtain ⟨⟨hx0, hx1, hx2, hx3, hx4, hx5⟩, _⟩ := hx; go_simp; try with_reducible rfl
  refine rdH 10 (fun K hK => ?_)
  go_simp
  go_wp2_with fail
  refine (ofE_is td tn HC.out.2.2.2.2.2.1 HC.out.2.2.2.2.2.2 _).mono ?_
  rintro e w9 ⟨rfl, hw9⟩
  obtain rfl := hw9.symm
  go_wp2_with fail
  refine hK.out _ _ hS (fun hS => ?_)
  clear hK K
  refine rdH 11 (fun K hK => ?_)
  go_simp
  go_wp2_with fail
  refine (l13Read_is (kE td tn) L y w0 _ v (addR xs (kI td)) m W HC.out.1.1 (by omega) S1.out.drew (by omega)).mono ?_
  rintro e w2 ⟨rfl, s2⟩
  have S2 : Hid (StP w0 w2 v (addR (addR xs (kI td)) (kE td tn)) m W) := s2
  have hS2 := HC.out.op s2
  rw [HT.out]
  clear s2
  go_wp2_with fail
  refine hK.out _ _ hS2 (fun hS => ?_)
  clear hK K
  refine tkH 12 ?_ hS (fun wx hx => ?_) ?_; rotate_left
  · obtain ⟨⟨hx0, hx1, hx2, hx3, hx4, hx5⟩, _⟩ := hx; go_simp; try with_reducible rfl
  refine tkH 13 ?_ hS (fun wx hx => ?_) ?_; rotate_left
  · obtain ⟨⟨hx0, hx1, hx2, hx3, hx4, hx5⟩, _⟩ := hx; go_simp; try with_reducible rfl
  refine tkH 14 ?_ hS (fun wx hx => ?_) ?_; rotate_left
  · obtain ⟨⟨hx0, hx1, hx2, hx3, hx4, hx5⟩, _⟩ := hx; go_simp; try with_reducible rfl
  refine tkH 15 ?_ hS (fun wx hx => ?_) ?_; rotate_left
  · obtain ⟨⟨hx0, hx1, hx2, hx3, hx4, hx5⟩, _⟩ := hx; go_simp; try with_reducible rfl
  refine tkH 16 ?_ hS (fun wx hx => ?_) ?_; rotate_left
  · obtain ⟨⟨hx0, hx1, hx2, hx3, hx4, hx5⟩, _⟩ := hx; go_simp; try with_reducible rfl
  refine wpAnyH_done (by kernel_rfl) ?_ _
  go_simp
  cases th with
  | true =>
    obtain rfl : (6 : Int) = r := HR.out
    go_wp2
    go_ret
    exact ⟨rfl, S2.out⟩
  | false =>
    obtain rfl : (0 : Int) = r := HR.out
    go_wp2
    go_ret
    exact ⟨rfl, S2.out⟩
set_option maxRecDepth 100000 in
set_option maxHeartbeats 4000000 in
theorem l13Remove_is (L : Prs) (y : Value) (bo oo : Nat) (kd d n td tn vv : Int) (w0 w : World) (c cv : Int) (xs : List Int) (hc : Ctx w0 L y bo oo kd d n td tn vv) (hs : StP w0 w 0 xs 0 []) (hx : xs.length ≤ 800) (hcc : 0 ≤ c ∧ c ≤ 9) (hcv : 0 ≤ cv ∧ cv ≤ 9999) (r v : Int) (ys : List Int) (m : Nat) (W : List Int) (hp : removeP L d n c cv xs = (r, v, ys, m, W)) :
    Calls Tryz.prog 123 #[.pointer (some ⟨w0.heap.size, 0, none⟩), y, .pointer (some ⟨bo, oo, none⟩), .int .i64 c, .int .i64 cv] w fun e w' => e = .returned (.int .i64 r) ∧ StP w0 w' v ys m W := by
  have HC : Hid (Ctx w0 L y bo oo kd d n td tn vv) := hc
  have HS : Hid (StP w0 w 0 xs 0 []) := hs
  have HCC : Hid (0 ≤ c ∧ c ≤ 9) := hcc
  have hl := hc.1.2
  obtain ⟨hv0, hv9⟩ := hcv
  clear hc hs hcc
  unfold removeP at hp
  by_cases h1 : cv = 1000
  case neg =>
    have e1 : (cv == 1000) = false := beq_eq_false_iff_ne.2 h1
    rw [if_neg h1] at hp
    by_cases h2 : 2001 < cv
    · have e2 : decide (2001 < cv) = true := decide_eq_true h2
      rw [if_pos h2] at hp
      simp only [Prod.mk.injEq] at hp
      obtain ⟨rfl, rfl, rfl, rfl, rfl⟩ := hp
      clear h1 h2
      go_enter Tryz.func123, Tryz.ntmps123
      go_upto_region 1 with fail
      refine wp_region_held_drew (S := fun X => opBO X bo oo kd d n td tn vv) (by kernel_rfl) (HC.out.op HS.out.drew) (fun hS => ?_)
      refine tkH 0 ?_ hS (fun wx hx => ?_) ?_; rotate_left
      · obtain ⟨⟨hx0, hx1, hx2, hx3, hx4, hx5⟩, _⟩ := hx; go_simp; try with_reducible rfl
      refine tkH 1 ?_ hS (fun wx hx => ?_) ?_; rotate_left
      · obtain ⟨⟨hx0, hx1, hx2, hx3, hx4, hx5⟩, _⟩ := hx; go_simp; try with_reducible rfl
      refine tkH 2 ?_ hS (fun wx hx => ?_) ?_; rotate_left
      · obtain ⟨⟨hx0, hx1, hx2, hx3, hx4, hx5⟩, _⟩ := hx; go_simp; try with_reducible rfl
      refine tkH 3 ?_ hS (fun wx hx => ?_) ?_; rotate_left
      · obtain ⟨⟨hx0, hx1, hx2, hx3, hx4, hx5⟩, _⟩ := hx; go_simp; try with_reducible rfl
      refine tkH 4 ?_ hS (fun wx hx => ?_) ?_; rotate_left
      · obtain ⟨⟨hx0, hx1, hx2, hx3, hx4, hx5⟩, _⟩ := hx; go_simp; try with_reducible rfl
      refine tkH 5 ?_ hS (fun wx hx => ?_) ?_; rotate_left
      · obtain ⟨⟨hx0, hx1, hx2, hx3, hx4, hx5⟩, _⟩ := hx; go_simp; try with_reducible rfl
      refine tkH 6 ?_ hS (fun wx hx => ?_) ?_; rotate_left
      · obtain ⟨⟨hx0, hx1, hx2, hx3, hx4, hx5⟩, _⟩ := hx; go_simp; try with_reducible rfl
      refine tkH 7 ?_ hS (fun wx hx => ?_) ?_; rotate_left
      · obtain ⟨⟨hx0, hx1, hx2, hx3, hx4, hx5⟩, _⟩ := hx; go_simp; try with_reducible rfl
      refine rdH 8 (fun K hK => ?_)
      go_simp
      go_wp2_with fail
      refine (ofE_is d n HC.out.2.2.2.1 HC.out.2.2.2.2.1 _).mono ?_
      rintro e w9 ⟨rfl, hw9⟩
      obtain rfl := hw9.symm
      go_wp2_with fail
      refine hK.out _ _ hS (fun hS => ?_)
      clear hK K
      refine tkH 9 ?_ hS (fun wx hx => ?_) ?_; rotate_left
      · obtain ⟨⟨hx0, hx1, hx2, hx3, hx4, hx5⟩, _⟩ := hx; go_simp; try with_reducible rfl
      refine wpAnyH_done (by kernel_rfl) ?_ _
      go_simp
      have S1 : Hid (StP w0 w.drew 0 xs 0 []) := HS.out.drew
      generalize w.drew = w1 at S1 ⊢
      clear hS
      go_wp2_with fail
      refine (ofI_is c HCC.out _).mono ?_
      rintro e w9 ⟨rfl, hw9⟩
      obtain rfl := hw9.symm
      go_wp2_with fail
      refine (l13Delete_is (kE d n) w0 _ 0 _ 0 _ S1.out (by omega)).mono ?_
      rintro e w2 ⟨rfl, st⟩
      have S2 : Hid (StP w0 w2 0 _ (0 + 1) _) := st
      clear st
      go_wp2_with fail
      refine (l13Put_is (kI c) (cv - 1) w0 _ 0 _ 1 _ S2.out (by omega)).mono ?_
      rintro e w3 ⟨rfl, st⟩
      have S3 : Hid (StP w0 w3 0 _ (1 + 1) _) := st
      clear st
      go_wp2
      go_ret
      exact ⟨rfl, S3.out⟩
    · have e2 : decide (2001 < cv) = false := decide_eq_false h2
      rw [if_neg h2] at hp
      simp only [Prod.mk.injEq] at hp
      obtain ⟨rfl, rfl, rfl, rfl, rfl⟩ := hp
      clear h1 h2
      go_enter Tryz.func123, Tryz.ntmps123
      go_upto_region 1 with fail
      refine wp_region_held_drew (S := fun X => opBO X bo oo kd d n td tn vv) (by kernel_rfl) (HC.out.op HS.out.drew) (fun hS => ?_)
      refine tkH 0 ?_ hS (fun wx hx => ?_) ?_; rotate_left
      · obtain ⟨⟨hx0, hx1, hx2, hx3, hx4, hx5⟩, _⟩ := hx; go_simp; try with_reducible rfl
      refine tkH 1 ?_ hS (fun wx hx => ?_) ?_; rotate_left
      · obtain ⟨⟨hx0, hx1, hx2, hx3, hx4, hx5⟩, _⟩ := hx; go_simp; try with_reducible rfl
      refine tkH 2 ?_ hS (fun wx hx => ?_) ?_; rotate_left
      · obtain ⟨⟨hx0, hx1, hx2, hx3, hx4, hx5⟩, _⟩ := hx; go_simp; try with_reducible rfl
      refine tkH 3 ?_ hS (fun wx hx => ?_) ?_; rotate_left
      · obtain ⟨⟨hx0, hx1, hx2, hx3, hx4, hx5⟩, _⟩ := hx; go_simp; try with_reducible rfl
      refine tkH 4 ?_ hS (fun wx hx => ?_) ?_; rotate_left
      · obtain ⟨⟨hx0, hx1, hx2, hx3, hx4, hx5⟩, _⟩ := hx; go_simp; try with_reducible rfl
      refine tkH 5 ?_ hS (fun wx hx => ?_) ?_; rotate_left
      · obtain ⟨⟨hx0, hx1, hx2, hx3, hx4, hx5⟩, _⟩ := hx; go_simp; try with_reducible rfl
      refine tkH 6 ?_ hS (fun wx hx => ?_) ?_; rotate_left
      · obtain ⟨⟨hx0, hx1, hx2, hx3, hx4, hx5⟩, _⟩ := hx; go_simp; try with_reducible rfl
      refine tkH 7 ?_ hS (fun wx hx => ?_) ?_; rotate_left
      · obtain ⟨⟨hx0, hx1, hx2, hx3, hx4, hx5⟩, _⟩ := hx; go_simp; try with_reducible rfl
      refine rdH 8 (fun K hK => ?_)
      go_simp
      go_wp2_with fail
      refine (ofE_is d n HC.out.2.2.2.1 HC.out.2.2.2.2.1 _).mono ?_
      rintro e w9 ⟨rfl, hw9⟩
      obtain rfl := hw9.symm
      go_wp2_with fail
      refine hK.out _ _ hS (fun hS => ?_)
      clear hK K
      refine tkH 9 ?_ hS (fun wx hx => ?_) ?_; rotate_left
      · obtain ⟨⟨hx0, hx1, hx2, hx3, hx4, hx5⟩, _⟩ := hx; go_simp; try with_reducible rfl
      refine wpAnyH_done (by kernel_rfl) ?_ _
      go_simp
      have S1 : Hid (StP w0 w.drew 0 xs 0 []) := HS.out.drew
      generalize w.drew = w1 at S1 ⊢
      clear hS
      go_wp2_with fail
      refine (ofI_is c HCC.out _).mono ?_
      rintro e w9 ⟨rfl, hw9⟩
      obtain rfl := hw9.symm
      go_wp2_with fail
      refine (l13Delete_is (kE d n) w0 _ 0 _ 0 _ S1.out (by omega)).mono ?_
      rintro e w2 ⟨rfl, st⟩
      have S2 : Hid (StP w0 w2 0 _ (0 + 1) _) := st
      clear st
      go_wp2_with fail
      refine (l13Delete_is (kI c) w0 _ 0 _ 1 _ S2.out (by omega)).mono ?_
      rintro e w3 ⟨rfl, st⟩
      have S3 : Hid (StP w0 w3 0 _ (1 + 1) _) := st
      clear st
      go_wp2_with fail
      refine (ofB_is c HCC.out _).mono ?_
      rintro e w9 ⟨rfl, hw9⟩
      obtain rfl := hw9.symm
      go_wp2_with fail
      refine (l13Delete_is (kB c) w0 _ 0 _ 2 _ S3.out (by omega)).mono ?_
      rintro e w4 ⟨rfl, st⟩
      have S4 : Hid (StP w0 w4 0 _ (2 + 1) _) := st
      clear st
      go_wp2
      go_ret
      exact ⟨rfl, S4.out⟩
  subst h1
  rw [if_pos rfl] at hp
  have HP : Hid ((if (emptyP L c 6 0 xs).1 = true then ((0 : Int), (0 : Int), (emptyP L c 6 0 xs).2, 2, [kE d n, 2, 0, kI c, 2, 0]) else (1, 0, (emptyP L c 6 0 xs).2, 0, [])) = (r, v, ys, m, W)) := hp
  clear hp hv0 hv9
  go_enter Tryz.func123, Tryz.ntmps123
  go_upto_region 1 with fail
  refine wp_region_held_drew (S := fun X => opBO X bo oo kd d n td tn vv) (by kernel_rfl) (HC.out.op HS.out.drew) (fun hS => ?_)
  refine tkH 0 ?_ hS (fun wx hx => ?_) ?_; rotate_left
  · obtain ⟨⟨hx0, hx1, hx2, hx3, hx4, hx5⟩, _⟩ := hx; go_simp; try with_reducible rfl
  refine tkH 1 ?_ hS (fun wx hx => ?_) ?_; rotate_left
  · obtain ⟨⟨hx0, hx1, hx2, hx3, hx4, hx5⟩, _⟩ := hx; go_simp; try with_reducible rfl
  refine tkH 2 ?_ hS (fun wx hx => ?_) ?_; rotate_left
  · obtain ⟨⟨hx0, hx1, hx2, hx3, hx4, hx5⟩, _⟩ := hx; go_simp; try with_reducible rfl
  refine tkH 3 ?_ hS (fun wx hx => ?_) ?_; rotate_left
  · obtain ⟨⟨hx0, hx1, hx2, hx3, hx4, hx5⟩, _⟩ := hx; go_simp; try with_reducible rfl
  refine tkH 4 ?_ hS (fun wx hx => ?_) ?_; rotate_left
  · obtain ⟨⟨hx0, hx1, hx2, hx3, hx4, hx5⟩, _⟩ := hx; go_simp; try with_reducible rfl
  refine tkH 5 ?_ hS (fun wx hx => ?_) ?_; rotate_left
  · obtain ⟨⟨hx0, hx1, hx2, hx3, hx4, hx5⟩, _⟩ := hx; go_simp; try with_reducible rfl
  refine tkH 6 ?_ hS (fun wx hx => ?_) ?_; rotate_left
  · obtain ⟨⟨hx0, hx1, hx2, hx3, hx4, hx5⟩, _⟩ := hx; go_simp; try with_reducible rfl
  refine tkH 7 ?_ hS (fun wx hx => ?_) ?_; rotate_left
  · obtain ⟨⟨hx0, hx1, hx2, hx3, hx4, hx5⟩, _⟩ := hx; go_simp; try with_reducible rfl
  refine rdH 8 (fun K hK => ?_)
  go_simp
  go_wp2_with fail
  refine (ofE_is d n HC.out.2.2.2.1 HC.out.2.2.2.2.1 _).mono ?_
  rintro e w9 ⟨rfl, hw9⟩
  obtain rfl := hw9.symm
  go_wp2_with fail
  refine hK.out _ _ hS (fun hS => ?_)
  clear hK K
  refine tkH 9 ?_ hS (fun wx hx => ?_) ?_; rotate_left
  · obtain ⟨⟨hx0, hx1, hx2, hx3, hx4, hx5⟩, _⟩ := hx; go_simp; try with_reducible rfl
  refine wpAnyH_done (by kernel_rfl) ?_ _
  go_simp
  have S1 : Hid (StP w0 w.drew 0 xs 0 []) := HS.out.drew
  generalize w.drew = w1 at S1 ⊢
  clear hS
  go_wp2_with fail
  refine (ofI_is c HCC.out _).mono ?_
  rintro e w9 ⟨rfl, hw9⟩
  obtain rfl := hw9.symm
  go_wp2
  go_loopw [13] (fun i wr => ∃ k : Nat, k ≤ 6 ∧ i = .int .i64 k ∧ ∃ zs, Hid (StP w0 wr 0 zs 0 [] ∧ emptyP L c 6 0 xs = emptyP L c (6 - k) k zs ∧ zs.length ≤ xs.length + k)) (fun i _ => 6 - (intOf i).toNat)
  case atStart => exact ⟨0, by omega, rfl, xs, S1.out, rfl, by omega⟩
  case round =>
    obtain ⟨k, hk, rfl, zs, HZ⟩ := hrel
    by_cases hlt : k < 6
    · have hzl := HZ.out.2.2
      obtain ⟨t, htq⟩ : ∃ t, lookF L (kE c k) = t := ⟨_, rfl⟩
      obtain ⟨th, tz⟩ := t
      have HT : Hid (lookF L (kE c k) = (th, tz)) := htq
      have HE : Hid (emptyP L c (6 - k) k zs = if th = true then (false, addR zs (kE c k)) else emptyP L c (6 - (k + 1)) ((k + 1 : Nat) : Int) (addR zs (kE c k))) := by
        unfold Hid
        rw [show 6 - k = (6 - (k + 1)) + 1 by omega, emptyP, htq]
        simp
      have hza := addR_len zs (kE c k)
      clear htq
      go_wp2_with fail
      refine (ofE_is c k HCC.out (by omega) _).mono ?_
      rintro e w9 ⟨rfl, hw9⟩
      obtain rfl := hw9.symm
      go_wp2_with fail
      refine (l13Read_is (kE c k) L y w0 _ 0 zs 0 [] HC.out.1.1 (by omega) HZ.out.1 (by omega)).mono ?_
      rintro e w2 ⟨rfl, s2⟩
      have S2 : Hid (StP w0 w2 0 (addR zs (kE c k)) 0 []) := s2
      rw [HT.out]
      clear s2
      cases th with
      | true =>
        have HEE : Hid (emptyP L c 6 0 xs = (false, addR zs (kE c k))) := HZ.out.2.1.trans HE.out
        clear HE HT
        go_wp2
        go_ret
        have hp := HP.out
        rw [HEE.out] at hp
        simp only [Bool.false_eq_true, if_false, Prod.mk.injEq] at hp
        obtain ⟨rfl, rfl, rfl, rfl, rfl⟩ := hp
        exact ⟨rfl, S2.out⟩
      | false =>
        have HEE : Hid (emptyP L c 6 0 xs = emptyP L c (6 - (k + 1)) ((k + 1 : Nat) : Int) (addR zs (kE c k))) := HZ.out.2.1.trans HE.out
        clear HE HT
        go_wp2
        go_roundw
        case rel => exact ⟨k + 1, by omega, by go_num, _, S2.out, HEE.out, by omega⟩
        case measure => simp [intOf]; omega
    · obtain rfl : k = 6 := by omega
      have HEE : Hid (emptyP L c 6 0 xs = (true, zs)) := HZ.out.2.1
      have S2 : Hid (StP w0 wr 0 zs 0 []) := HZ.out.1
      clear HZ S1
      go_wp2_with fail
      refine (l13Delete_is (kE d n) w0 _ 0 _ 0 _ S2.out (by omega)).mono ?_
      rintro e w3 ⟨rfl, st⟩
      have S3 : Hid (StP w0 w3 0 _ (0 + 1) _) := st
      clear st
      go_wp2_with fail
      refine (l13Delete_is (kI c) w0 _ 0 _ 1 _ S3.out (by omega)).mono ?_
      rintro e w4 ⟨rfl, st⟩
      have S4 : Hid (StP w0 w4 0 _ (1 + 1) _) := st
      clear st
      go_wp2
      go_ret
      have hp := HP.out
      rw [HEE.out] at hp
      simp only [if_true, Prod.mk.injEq] at hp
      obtain ⟨rfl, rfl, rfl, rfl, rfl⟩ := hp
      exact ⟨rfl, S4.out⟩
end Go.Proofs.YtnchaccgenfhoaaGreat

namespace Go.Proofs.YtnchaccgenfhoaaGreat
open Go.RowKit

theorem target_len (L : Prs) (td tn : Int) (xs : List Int) : (targetP L td tn xs).2.length ≤ xs.length + 2 := by
  have h1 := addR_len xs (kI td)
  have h2 := addR_len (addR xs (kI td)) (kE td tn)
  unfold targetP
  split <;> simp only <;> omega
set_option maxRecDepth 100000 in
set_option maxHeartbeats 4000000 in
theorem l13Move_is (L : Prs) (y : Value) (bo oo : Nat) (kd d n td tn vv : Int) (w0 w : World) (c cv : Int) (xs : List Int) (hc : Ctx w0 L y bo oo kd d n td tn vv) (hs : StP w0 w 0 xs 0 []) (hx : xs.length ≤ 800) (hcc : 0 ≤ c ∧ c ≤ 9) (hcv : 0 ≤ cv ∧ cv ≤ 9999) (r v : Int) (ys : List Int) (m : Nat) (W : List Int) (hp : moveP L d n td tn c cv xs = (r, v, ys, m, W)) :
    Calls Tryz.prog 124 #[.pointer (some ⟨w0.heap.size, 0, none⟩), y, .pointer (some ⟨bo, oo, none⟩), .int .i64 c, .int .i64 cv] w fun e w' => e = .returned (.int .i64 r) ∧ StP w0 w' v ys m W := by
  have HC : Hid (Ctx w0 L y bo oo kd d n td tn vv) := hc
  have HS : Hid (StP w0 w 0 xs 0 []) := hs
  have HCC : Hid (0 ≤ c ∧ c ≤ 9) := hcc
  have hl := hc.1.2
  obtain ⟨hv0, hv9⟩ := hcv
  clear hc hs hcc
  unfold moveP at hp
  by_cases h1 : cv = 1000
  · subst h1
    clear hv0 hv9
    by_cases h2 : td = d
    case neg =>
      have e3 : (td != d) = true := bne_iff_ne.2 h2
      rw [if_pos ⟨rfl, h2⟩] at hp
      simp only [Prod.mk.injEq] at hp
      obtain ⟨rfl, rfl, rfl, rfl, rfl⟩ := hp
      clear h2
      go_enter Tryz.func124, Tryz.ntmps124
      go_upto_region 1 with fail
      refine wp_region_held_drew (S := fun X => opBO X bo oo kd d n td tn vv) (by kernel_rfl) (HC.out.op HS.out.drew) (fun hS => ?_)
      refine tkH 0 ?_ hS (fun wx hx => ?_) ?_; rotate_left
      · obtain ⟨⟨hx0, hx1, hx2, hx3, hx4, hx5⟩, _⟩ := hx; go_simp; try with_reducible rfl
      refine tkH 1 ?_ hS (fun wx hx => ?_) ?_; rotate_left
      · obtain ⟨⟨hx0, hx1, hx2, hx3, hx4, hx5⟩, _⟩ := hx; go_simp; try with_reducible rfl
      refine tkH 2 ?_ hS (fun wx hx => ?_) ?_; rotate_left
      · obtain ⟨⟨hx0, hx1, hx2, hx3, hx4, hx5⟩, _⟩ := hx; go_simp; try with_reducible rfl
      refine tkH 3 ?_ hS (fun wx hx => ?_) ?_; rotate_left
      · obtain ⟨⟨hx0, hx1, hx2, hx3, hx4, hx5⟩, _⟩ := hx; go_simp; try with_reducible rfl
      refine tkH 4 ?_ hS (fun wx hx => ?_) ?_; rotate_left
      · obtain ⟨⟨hx0, hx1, hx2, hx3, hx4, hx5⟩, _⟩ := hx; go_simp; try with_reducible rfl
      refine tkH 5 ?_ hS (fun wx hx => ?_) ?_; rotate_left
      · obtain ⟨⟨hx0, hx1, hx2, hx3, hx4, hx5⟩, _⟩ := hx; go_simp; try with_reducible rfl
      refine tkH 6 ?_ hS (fun wx hx => ?_) ?_; rotate_left
      · obtain ⟨⟨hx0, hx1, hx2, hx3, hx4, hx5⟩, _⟩ := hx; go_simp; try with_reducible rfl
      refine tkH 7 ?_ hS (fun wx hx => ?_) ?_; rotate_left
      · obtain ⟨⟨hx0, hx1, hx2, hx3, hx4, hx5⟩, _⟩ := hx; go_simp; try with_reducible rfl
      refine tkH 8 ?_ hS (fun wx hx => ?_) ?_; rotate_left
      · obtain ⟨⟨hx0, hx1, hx2, hx3, hx4, hx5⟩, _⟩ := hx; go_simp; try with_reducible rfl
      refine tkH 9 ?_ hS (fun wx hx => ?_) ?_; rotate_left
      · obtain ⟨⟨hx0, hx1, hx2, hx3, hx4, hx5⟩, _⟩ := hx; go_simp; try with_reducible rfl
      refine tkH 10 ?_ hS (fun wx hx => ?_) ?_; rotate_left
      · obtain ⟨⟨hx0, hx1, hx2, hx3, hx4, hx5⟩, _⟩ := hx; go_simp; try with_reducible rfl
      refine tkH 11 ?_ hS (fun wx hx => ?_) ?_; rotate_left
      · obtain ⟨⟨hx0, hx1, hx2, hx3, hx4, hx5⟩, _⟩ := hx; go_simp; try with_reducible rfl
      refine tkH 12 ?_ hS (fun wx hx => ?_) ?_; rotate_left
      · obtain ⟨⟨hx0, hx1, hx2, hx3, hx4, hx5⟩, _⟩ := hx; go_simp; try with_reducible rfl
      refine wpAnyH_done (by kernel_rfl) ?_ _
      go_simp
      clear hS
      go_wp2
      go_ret
      exact ⟨rfl, HS.out.drew⟩
    have e3 : (td != d) = false := by simp [h2]
    rw [if_neg (fun q => q.2 h2)] at hp
    clear h2
    go_enter Tryz.func124, Tryz.ntmps124
    go_upto_region 1 with fail
    refine wp_region_held_drew (S := fun X => opBO X bo oo kd d n td tn vv) (by kernel_rfl) (HC.out.op HS.out.drew) (fun hS => ?_)
    refine tkH 0 ?_ hS (fun wx hx => ?_) ?_; rotate_left
    · obtain ⟨⟨hx0, hx1, hx2, hx3, hx4, hx5⟩, _⟩ := hx; go_simp; try with_reducible rfl
    refine tkH 1 ?_ hS (fun wx hx => ?_) ?_; rotate_left
    · obtain ⟨⟨hx0, hx1, hx2, hx3, hx4, hx5⟩, _⟩ := hx; go_simp; try with_reducible rfl
    refine tkH 2 ?_ hS (fun wx hx => ?_) ?_; rotate_left
    · obtain ⟨⟨hx0, hx1, hx2, hx3, hx4, hx5⟩, _⟩ := hx; go_simp; try with_reducible rfl
    refine tkH 3 ?_ hS (fun wx hx => ?_) ?_; rotate_left
    · obtain ⟨⟨hx0, hx1, hx2, hx3, hx4, hx5⟩, _⟩ := hx; go_simp; try with_reducible rfl
    refine tkH 4 ?_ hS (fun wx hx => ?_) ?_; rotate_left
    · obtain ⟨⟨hx0, hx1, hx2, hx3, hx4, hx5⟩, _⟩ := hx; go_simp; try with_reducible rfl
    refine tkH 5 ?_ hS (fun wx hx => ?_) ?_; rotate_left
    · obtain ⟨⟨hx0, hx1, hx2, hx3, hx4, hx5⟩, _⟩ := hx; go_simp; try with_reducible rfl
    refine tkH 6 ?_ hS (fun wx hx => ?_) ?_; rotate_left
    · obtain ⟨⟨hx0, hx1, hx2, hx3, hx4, hx5⟩, _⟩ := hx; go_simp; try with_reducible rfl
    refine tkH 7 ?_ hS (fun wx hx => ?_) ?_; rotate_left
    · obtain ⟨⟨hx0, hx1, hx2, hx3, hx4, hx5⟩, _⟩ := hx; go_simp; try with_reducible rfl
    refine tkH 8 ?_ hS (fun wx hx => ?_) ?_; rotate_left
    · obtain ⟨⟨hx0, hx1, hx2, hx3, hx4, hx5⟩, _⟩ := hx; go_simp; try with_reducible rfl
    refine tkH 9 ?_ hS (fun wx hx => ?_) ?_; rotate_left
    · obtain ⟨⟨hx0, hx1, hx2, hx3, hx4, hx5⟩, _⟩ := hx; go_simp; try with_reducible rfl
    refine tkH 10 ?_ hS (fun wx hx => ?_) ?_; rotate_left
    · obtain ⟨⟨hx0, hx1, hx2, hx3, hx4, hx5⟩, _⟩ := hx; go_simp; try with_reducible rfl
    refine tkH 11 ?_ hS (fun wx hx => ?_) ?_; rotate_left
    · obtain ⟨⟨hx0, hx1, hx2, hx3, hx4, hx5⟩, _⟩ := hx; go_simp; try with_reducible rfl
    refine tkH 12 ?_ hS (fun wx hx => ?_) ?_; rotate_left
    · obtain ⟨⟨hx0, hx1, hx2, hx3, hx4, hx5⟩, _⟩ := hx; go_simp; try with_reducible rfl
    refine wpAnyH_done (by kernel_rfl) ?_ _
    go_simp
    clear hS
    obtain ⟨tt, htq⟩ : ∃ tt, targetP L td tn xs = tt := ⟨_, rfl⟩
    have hzl := target_len L td tn xs
    rw [htq] at hp hzl
    obtain ⟨t, zs⟩ := tt
    have HT : Hid (targetP L td tn xs = (t, zs)) := htq
    clear htq
    by_cases h0 : t = 0
    case neg =>
      have e0 : (t != 0) = true := bne_iff_ne.2 h0
      rw [if_neg h0] at hp
      simp only [Prod.mk.injEq] at hp
      obtain ⟨rfl, rfl, rfl, rfl, rfl⟩ := hp
      clear h0
      go_wp2_with fail
      refine (l13Target_is L y bo oo kd d n td tn vv w0 _ 0 xs 0 [] HC.out HS.out.drew (by omega) _ zs HT.out).mono ?_
      rintro e w2 ⟨rfl, s2⟩
      have S2 : Hid (StP w0 w2 0 zs 0 []) := s2
      clear s2
      go_wp2
      go_ret
      exact ⟨rfl, S2.out⟩
    subst h0
    rw [if_pos rfl] at hp
    simp only [Prod.mk.injEq] at hp
    obtain ⟨rfl, rfl, rfl, rfl, rfl⟩ := hp
    go_wp2_with fail
    refine (l13Target_is L y bo oo kd d n td tn vv w0 _ 0 xs 0 [] HC.out HS.out.drew (by omega) _ zs HT.out).mono ?_
    rintro e w2 ⟨rfl, s2⟩
    have S2 : Hid (StP w0 w2 0 zs 0 []) := s2
    clear s2
    go_upto_region 6 with fail
    refine wp_region_held_drew (S := fun X => opBO X bo oo kd d n td tn vv) (by kernel_rfl) (HC.out.op S2.out.drew) (fun hS => ?_)
    refine tkH 0 ?_ hS (fun wx hx => ?_) ?_; rotate_left
    · obtain ⟨⟨hx0, hx1, hx2, hx3, hx4, hx5⟩, _⟩ := hx; go_simp; try with_reducible rfl
    refine tkH 1 ?_ hS (fun wx hx => ?_) ?_; rotate_left
    · obtain ⟨⟨hx0, hx1, hx2, hx3, hx4, hx5⟩, _⟩ := hx; go_simp; try with_reducible rfl
    refine tkH 2 ?_ hS (fun wx hx => ?_) ?_; rotate_left
    · obtain ⟨⟨hx0, hx1, hx2, hx3, hx4, hx5⟩, _⟩ := hx; go_simp; try with_reducible rfl
    refine tkH 3 ?_ hS (fun wx hx => ?_) ?_; rotate_left
    · obtain ⟨⟨hx0, hx1, hx2, hx3, hx4, hx5⟩, _⟩ := hx; go_simp; try with_reducible rfl
    refine tkH 4 ?_ hS (fun wx hx => ?_) ?_; rotate_left
    · obtain ⟨⟨hx0, hx1, hx2, hx3, hx4, hx5⟩, _⟩ := hx; go_simp; try with_reducible rfl
    refine tkH 5 ?_ hS (fun wx hx => ?_) ?_; rotate_left
    · obtain ⟨⟨hx0, hx1, hx2, hx3, hx4, hx5⟩, _⟩ := hx; go_simp; try with_reducible rfl
    refine tkH 6 ?_ hS (fun wx hx => ?_) ?_; rotate_left
    · obtain ⟨⟨hx0, hx1, hx2, hx3, hx4, hx5⟩, _⟩ := hx; go_simp; try with_reducible rfl
    refine tkH 7 ?_ hS (fun wx hx => ?_) ?_; rotate_left
    · obtain ⟨⟨hx0, hx1, hx2, hx3, hx4, hx5⟩, _⟩ := hx; go_simp; try with_reducible rfl
    refine tkH 8 ?_ hS (fun wx hx => ?_) ?_; rotate_left
    · obtain ⟨⟨hx0, hx1, hx2, hx3, hx4, hx5⟩, _⟩ := hx; go_simp; try with_reducible rfl
    refine rdH 9 (fun K hK => ?_)
    go_simp
    go_wp2_with fail
    refine (ofE_is d n HC.out.2.2.2.1 HC.out.2.2.2.2.1 _).mono ?_
    rintro e w9 ⟨rfl, hw9⟩
    obtain rfl := hw9.symm
    go_wp2_with fail
    refine hK.out _ _ hS (fun hS => ?_)
    clear hK K
    refine rdH 10 (fun K hK => ?_)
    go_simp
    go_wp2_with fail
    refine (l13Delete_is (kE d n) w0 _ 0 _ 0 _ S2.out.drew (by omega)).mono ?_
    rintro e w3 ⟨rfl, st⟩
    have S3 : Hid (StP w0 w3 0 _ (0 + 1) _) := st
    have hSx := HC.out.op st
    clear st
    go_wp2_with fail
    refine hK.out _ _ hSx (fun hS => ?_)
    clear hK K
    refine wpAnyH_done (by kernel_rfl) ?_ _
    go_simp
    go_upto_region 7 with fail
    refine wp_region_held_drew (S := fun X => opBO X bo oo kd d n td tn vv) (by kernel_rfl) (HC.out.op S3.out.drew) (fun hS => ?_)
    refine tkH 0 ?_ hS (fun wx hx => ?_) ?_; rotate_left
    · obtain ⟨⟨hx0, hx1, hx2, hx3, hx4, hx5⟩, _⟩ := hx; go_simp; try with_reducible rfl
    refine tkH 1 ?_ hS (fun wx hx => ?_) ?_; rotate_left
    · obtain ⟨⟨hx0, hx1, hx2, hx3, hx4, hx5⟩, _⟩ := hx; go_simp; try with_reducible rfl
    refine tkH 2 ?_ hS (fun wx hx => ?_) ?_; rotate_left
    · obtain ⟨⟨hx0, hx1, hx2, hx3, hx4, hx5⟩, _⟩ := hx; go_simp; try with_reducible rfl
    refine tkH 3 ?_ hS (fun wx hx => ?_) ?_; rotate_left
    · obtain ⟨⟨hx0, hx1, hx2, hx3, hx4, hx5⟩, _⟩ := hx; go_simp; try with_reducible rfl
    refine tkH 4 ?_ hS (fun wx hx => ?_) ?_; rotate_left
    · obtain ⟨⟨hx0, hx1, hx2, hx3, hx4, hx5⟩, _⟩ := hx; go_simp; try with_reducible rfl
    refine tkH 5 ?_ hS (fun wx hx => ?_) ?_; rotate_left
    · obtain ⟨⟨hx0, hx1, hx2, hx3, hx4, hx5⟩, _⟩ := hx; go_simp; try with_reducible rfl
    refine tkH 6 ?_ hS (fun wx hx => ?_) ?_; rotate_left
    · obtain ⟨⟨hx0, hx1, hx2, hx3, hx4, hx5⟩, _⟩ := hx; go_simp; try with_reducible rfl
    refine tkH 7 ?_ hS (fun wx hx => ?_) ?_; rotate_left
    · obtain ⟨⟨hx0, hx1, hx2, hx3, hx4, hx5⟩, _⟩ := hx; go_simp; try with_reducible rfl
    refine tkH 8 ?_ hS (fun wx hx => ?_) ?_; rotate_left
    · obtain ⟨⟨hx0, hx1, hx2, hx3, hx4, hx5⟩, _⟩ := hx; go_simp; try with_reducible rfl
    refine tkH 10 ?_ hS (fun wx hx => ?_) ?_; rotate_left
    · obtain ⟨⟨hx0, hx1, hx2, hx3, hx4, hx5⟩, _⟩ := hx; go_simp; try with_reducible rfl
    refine rdH 9 (fun K hK => ?_)
    go_simp
    go_wp2_with fail
    refine (ofE_is td tn HC.out.2.2.2.2.2.1 HC.out.2.2.2.2.2.2 _).mono ?_
    rintro e w9 ⟨rfl, hw9⟩
    obtain rfl := hw9.symm
    go_wp2_with fail
    refine hK.out _ _ hS (fun hS => ?_)
    clear hK K
    refine rdH 11 (fun K hK => ?_)
    go_simp
    go_wp2_with fail
    refine (l13Put_is (kE td tn) (c) w0 _ 0 _ 1 _ S3.out.drew (by omega)).mono ?_
    rintro e w4 ⟨rfl, st⟩
    have S4 : Hid (StP w0 w4 0 _ (1 + 1) _) := st
    have hSx := HC.out.op st
    clear st
    go_wp2_with fail
    refine hK.out _ _ hSx (fun hS => ?_)
    clear hK K
    refine wpAnyH_done (by kernel_rfl) ?_ _
    go_simp
    go_wp2
    go_ret
    exact ⟨rfl, S4.out⟩
  have e1 : (cv == 1000) = false := beq_eq_false_iff_ne.2 h1
  rw [if_neg (fun q => h1 q.1)] at hp
  clear h1
  go_enter Tryz.func124, Tryz.ntmps124
  go_upto_region 1 with fail
  refine wp_region_held_drew (S := fun X => opBO X bo oo kd d n td tn vv) (by kernel_rfl) (HC.out.op HS.out.drew) (fun hS => ?_)
  refine tkH 0 ?_ hS (fun wx hx => ?_) ?_; rotate_left
  · obtain ⟨⟨hx0, hx1, hx2, hx3, hx4, hx5⟩, _⟩ := hx; go_simp; try with_reducible rfl
  refine tkH 1 ?_ hS (fun wx hx => ?_) ?_; rotate_left
  · obtain ⟨⟨hx0, hx1, hx2, hx3, hx4, hx5⟩, _⟩ := hx; go_simp; try with_reducible rfl
  refine tkH 2 ?_ hS (fun wx hx => ?_) ?_; rotate_left
  · obtain ⟨⟨hx0, hx1, hx2, hx3, hx4, hx5⟩, _⟩ := hx; go_simp; try with_reducible rfl
  refine noH 3 hS ?_
  refine noH 4 hS ?_
  refine noH 5 hS ?_
  refine noH 6 hS ?_
  refine noH 7 hS ?_
  refine noH 8 hS ?_
  refine noH 9 hS ?_
  refine noH 10 hS ?_
  refine noH 11 hS ?_
  refine tkH 12 ?_ hS (fun wx hx => ?_) ?_; rotate_left
  · obtain ⟨⟨hx0, hx1, hx2, hx3, hx4, hx5⟩, _⟩ := hx; go_simp; try with_reducible rfl
  refine wpAnyH_done (by kernel_rfl) ?_ _
  go_simp
  clear hS
  obtain ⟨tt, htq⟩ : ∃ tt, targetP L td tn xs = tt := ⟨_, rfl⟩
  have hzl := target_len L td tn xs
  rw [htq] at hp hzl
  obtain ⟨t, zs⟩ := tt
  have HT : Hid (targetP L td tn xs = (t, zs)) := htq
  clear htq
  by_cases h0 : t = 0
  case neg =>
    have e0 : (t != 0) = true := bne_iff_ne.2 h0
    rw [if_neg h0] at hp
    simp only [Prod.mk.injEq] at hp
    obtain ⟨rfl, rfl, rfl, rfl, rfl⟩ := hp
    clear h0
    go_wp2_with fail
    refine (l13Target_is L y bo oo kd d n td tn vv w0 _ 0 xs 0 [] HC.out HS.out.drew (by omega) _ zs HT.out).mono ?_
    rintro e w2 ⟨rfl, s2⟩
    have S2 : Hid (StP w0 w2 0 zs 0 []) := s2
    clear s2
    go_wp2
    go_ret
    exact ⟨rfl, S2.out⟩
  subst h0
  rw [if_pos rfl] at hp
  simp only [Prod.mk.injEq] at hp
  obtain ⟨rfl, rfl, rfl, rfl, rfl⟩ := hp
  go_wp2_with fail
  refine (l13Target_is L y bo oo kd d n td tn vv w0 _ 0 xs 0 [] HC.out HS.out.drew (by omega) _ zs HT.out).mono ?_
  rintro e w2 ⟨rfl, s2⟩
  have S2 : Hid (StP w0 w2 0 zs 0 []) := s2
  clear s2
  go_upto_region 6 with fail
  refine wp_region_held_drew (S := fun X => opBO X bo oo kd d n td tn vv) (by kernel_rfl) (HC.out.op S2.out.drew) (fun hS => ?_)
  refine tkH 0 ?_ hS (fun wx hx => ?_) ?_; rotate_left
  · obtain ⟨⟨hx0, hx1, hx2, hx3, hx4, hx5⟩, _⟩ := hx; go_simp; try with_reducible rfl
  refine tkH 1 ?_ hS (fun wx hx => ?_) ?_; rotate_left
  · obtain ⟨⟨hx0, hx1, hx2, hx3, hx4, hx5⟩, _⟩ := hx; go_simp; try with_reducible rfl
  refine tkH 2 ?_ hS (fun wx hx => ?_) ?_; rotate_left
  · obtain ⟨⟨hx0, hx1, hx2, hx3, hx4, hx5⟩, _⟩ := hx; go_simp; try with_reducible rfl
  refine tkH 3 ?_ hS (fun wx hx => ?_) ?_; rotate_left
  · obtain ⟨⟨hx0, hx1, hx2, hx3, hx4, hx5⟩, _⟩ := hx; go_simp; try with_reducible rfl
  refine tkH 4 ?_ hS (fun wx hx => ?_) ?_; rotate_left
  · obtain ⟨⟨hx0, hx1, hx2, hx3, hx4, hx5⟩, _⟩ := hx; go_simp; try with_reducible rfl
  refine tkH 5 ?_ hS (fun wx hx => ?_) ?_; rotate_left
  · obtain ⟨⟨hx0, hx1, hx2, hx3, hx4, hx5⟩, _⟩ := hx; go_simp; try with_reducible rfl
  refine tkH 6 ?_ hS (fun wx hx => ?_) ?_; rotate_left
  · obtain ⟨⟨hx0, hx1, hx2, hx3, hx4, hx5⟩, _⟩ := hx; go_simp; try with_reducible rfl
  refine tkH 7 ?_ hS (fun wx hx => ?_) ?_; rotate_left
  · obtain ⟨⟨hx0, hx1, hx2, hx3, hx4, hx5⟩, _⟩ := hx; go_simp; try with_reducible rfl
  refine tkH 8 ?_ hS (fun wx hx => ?_) ?_; rotate_left
  · obtain ⟨⟨hx0, hx1, hx2, hx3, hx4, hx5⟩, _⟩ := hx; go_simp; try with_reducible rfl
  refine rdH 9 (fun K hK => ?_)
  go_simp
  go_wp2_with fail
  refine (ofE_is d n HC.out.2.2.2.1 HC.out.2.2.2.2.1 _).mono ?_
  rintro e w9 ⟨rfl, hw9⟩
  obtain rfl := hw9.symm
  go_wp2_with fail
  refine hK.out _ _ hS (fun hS => ?_)
  clear hK K
  refine rdH 10 (fun K hK => ?_)
  go_simp
  go_wp2_with fail
  refine (l13Delete_is (kE d n) w0 _ 0 _ 0 _ S2.out.drew (by omega)).mono ?_
  rintro e w3 ⟨rfl, st⟩
  have S3 : Hid (StP w0 w3 0 _ (0 + 1) _) := st
  have hSx := HC.out.op st
  clear st
  go_wp2_with fail
  refine hK.out _ _ hSx (fun hS => ?_)
  clear hK K
  refine wpAnyH_done (by kernel_rfl) ?_ _
  go_simp
  go_upto_region 7 with fail
  refine wp_region_held_drew (S := fun X => opBO X bo oo kd d n td tn vv) (by kernel_rfl) (HC.out.op S3.out.drew) (fun hS => ?_)
  refine tkH 0 ?_ hS (fun wx hx => ?_) ?_; rotate_left
  · obtain ⟨⟨hx0, hx1, hx2, hx3, hx4, hx5⟩, _⟩ := hx; go_simp; try with_reducible rfl
  refine tkH 1 ?_ hS (fun wx hx => ?_) ?_; rotate_left
  · obtain ⟨⟨hx0, hx1, hx2, hx3, hx4, hx5⟩, _⟩ := hx; go_simp; try with_reducible rfl
  refine tkH 2 ?_ hS (fun wx hx => ?_) ?_; rotate_left
  · obtain ⟨⟨hx0, hx1, hx2, hx3, hx4, hx5⟩, _⟩ := hx; go_simp; try with_reducible rfl
  refine tkH 3 ?_ hS (fun wx hx => ?_) ?_; rotate_left
  · obtain ⟨⟨hx0, hx1, hx2, hx3, hx4, hx5⟩, _⟩ := hx; go_simp; try with_reducible rfl
  refine tkH 4 ?_ hS (fun wx hx => ?_) ?_; rotate_left
  · obtain ⟨⟨hx0, hx1, hx2, hx3, hx4, hx5⟩, _⟩ := hx; go_simp; try with_reducible rfl
  refine tkH 5 ?_ hS (fun wx hx => ?_) ?_; rotate_left
  · obtain ⟨⟨hx0, hx1, hx2, hx3, hx4, hx5⟩, _⟩ := hx; go_simp; try with_reducible rfl
  refine tkH 6 ?_ hS (fun wx hx => ?_) ?_; rotate_left
  · obtain ⟨⟨hx0, hx1, hx2, hx3, hx4, hx5⟩, _⟩ := hx; go_simp; try with_reducible rfl
  refine tkH 7 ?_ hS (fun wx hx => ?_) ?_; rotate_left
  · obtain ⟨⟨hx0, hx1, hx2, hx3, hx4, hx5⟩, _⟩ := hx; go_simp; try with_reducible rfl
  refine tkH 8 ?_ hS (fun wx hx => ?_) ?_; rotate_left
  · obtain ⟨⟨hx0, hx1, hx2, hx3, hx4, hx5⟩, _⟩ := hx; go_simp; try with_reducible rfl
  refine tkH 10 ?_ hS (fun wx hx => ?_) ?_; rotate_left
  · obtain ⟨⟨hx0, hx1, hx2, hx3, hx4, hx5⟩, _⟩ := hx; go_simp; try with_reducible rfl
  refine rdH 9 (fun K hK => ?_)
  go_simp
  go_wp2_with fail
  refine (ofE_is td tn HC.out.2.2.2.2.2.1 HC.out.2.2.2.2.2.2 _).mono ?_
  rintro e w9 ⟨rfl, hw9⟩
  obtain rfl := hw9.symm
  go_wp2_with fail
  refine hK.out _ _ hS (fun hS => ?_)
  clear hK K
  refine rdH 11 (fun K hK => ?_)
  go_simp
  go_wp2_with fail
  refine (l13Put_is (kE td tn) (c) w0 _ 0 _ 1 _ S3.out.drew (by omega)).mono ?_
  rintro e w4 ⟨rfl, st⟩
  have S4 : Hid (StP w0 w4 0 _ (1 + 1) _) := st
  have hSx := HC.out.op st
  clear st
  go_wp2_with fail
  refine hK.out _ _ hSx (fun hS => ?_)
  clear hK K
  refine wpAnyH_done (by kernel_rfl) ?_ _
  go_simp
  go_wp2
  go_ret
  exact ⟨rfl, S4.out⟩
set_option maxRecDepth 100000 in
set_option maxHeartbeats 4000000 in
theorem l13Link_is (L : Prs) (y : Value) (bo oo : Nat) (kd d n td tn vv : Int) (w0 w : World) (c cv : Int) (xs : List Int) (hc : Ctx w0 L y bo oo kd d n td tn vv) (hs : StP w0 w 0 xs 0 []) (hx : xs.length ≤ 800) (hcc : 0 ≤ c ∧ c ≤ 9) (hcv : 0 ≤ cv ∧ cv ≤ 9999) (r v : Int) (ys : List Int) (m : Nat) (W : List Int) (hp : linkP L td tn c cv xs = (r, v, ys, m, W)) :
    Calls Tryz.prog 125 #[.pointer (some ⟨w0.heap.size, 0, none⟩), y, .pointer (some ⟨bo, oo, none⟩), .int .i64 c, .int .i64 cv] w fun e w' => e = .returned (.int .i64 r) ∧ StP w0 w' v ys m W := by
  have HC : Hid (Ctx w0 L y bo oo kd d n td tn vv) := hc
  have HS : Hid (StP w0 w 0 xs 0 []) := hs
  have HCC : Hid (0 ≤ c ∧ c ≤ 9) := hcc
  have hl := hc.1.2
  obtain ⟨hv0, hv9⟩ := hcv
  clear hc hs hcc
  unfold linkP at hp
  by_cases h1 : cv = 1000
  · subst h1
    rw [if_pos rfl] at hp
    simp only [Prod.mk.injEq] at hp
    obtain ⟨rfl, rfl, rfl, rfl, rfl⟩ := hp
    go_enter Tryz.func125, Tryz.ntmps125
    go_wp2
    go_ret
    exact ⟨rfl, HS.out⟩
  have e1 : (cv == 1000) = false := beq_eq_false_iff_ne.2 h1
  rw [if_neg h1] at hp
  clear h1
  obtain ⟨tt, htq⟩ : ∃ tt, targetP L td tn xs = tt := ⟨_, rfl⟩
  have hzl := target_len L td tn xs
  rw [htq] at hp hzl
  obtain ⟨t, zs⟩ := tt
  have HT : Hid (targetP L td tn xs = (t, zs)) := htq
  clear htq
  by_cases h0 : t = 0
  case neg =>
    have e0 : (t != 0) = true := bne_iff_ne.2 h0
    rw [if_neg h0] at hp
    simp only [Prod.mk.injEq] at hp
    obtain ⟨rfl, rfl, rfl, rfl, rfl⟩ := hp
    clear h0
    go_enter Tryz.func125, Tryz.ntmps125
    go_wp2_with fail
    refine (l13Target_is L y bo oo kd d n td tn vv w0 _ 0 xs 0 [] HC.out HS.out (by omega) _ zs HT.out).mono ?_
    rintro e w2 ⟨rfl, s2⟩
    have S2 : Hid (StP w0 w2 0 zs 0 []) := s2
    clear s2
    go_wp2
    go_ret
    exact ⟨rfl, S2.out⟩
  subst h0
  rw [if_pos rfl] at hp
  by_cases h2 : 2099 ≤ cv
  · have e2 : decide (2099 ≤ cv) = true := decide_eq_true h2
    rw [if_pos h2] at hp
    simp only [Prod.mk.injEq] at hp
    obtain ⟨rfl, rfl, rfl, rfl, rfl⟩ := hp
    clear h2
    go_enter Tryz.func125, Tryz.ntmps125
    go_wp2_with fail
    refine (l13Target_is L y bo oo kd d n td tn vv w0 _ 0 xs 0 [] HC.out HS.out (by omega) _ zs HT.out).mono ?_
    rintro e w2 ⟨rfl, s2⟩
    have S2 : Hid (StP w0 w2 0 zs 0 []) := s2
    clear s2
    go_wp2
    go_ret
    exact ⟨rfl, S2.out⟩
  have e2 : decide (2099 ≤ cv) = false := decide_eq_false h2
  rw [if_neg h2] at hp
  simp only [Prod.mk.injEq] at hp
  obtain ⟨rfl, rfl, rfl, rfl, rfl⟩ := hp
  clear h2
  go_enter Tryz.func125, Tryz.ntmps125
  go_wp2_with fail
  refine (l13Target_is L y bo oo kd d n td tn vv w0 _ 0 xs 0 [] HC.out HS.out (by omega) _ zs HT.out).mono ?_
  rintro e w2 ⟨rfl, s2⟩
  have S2 : Hid (StP w0 w2 0 zs 0 []) := s2
  clear s2
  go_wp2_with fail
  refine (ofI_is c HCC.out _).mono ?_
  rintro e w9 ⟨rfl, hw9⟩
  obtain rfl := hw9.symm
  go_wp2_with fail
  refine (l13Put_is (kI c) (cv + 1) w0 _ 0 _ 0 _ S2.out (by omega)).mono ?_
  rintro e w3 ⟨rfl, st⟩
  have S3 : Hid (StP w0 w3 0 _ (0 + 1) _) := st
  clear st
  go_upto_region 9 with fail
  refine wp_region_held_drew (S := fun X => opBO X bo oo kd d n td tn vv) (by kernel_rfl) (HC.out.op S3.out.drew) (fun hS => ?_)
  refine tkH 0 ?_ hS (fun wx hx => ?_) ?_; rotate_left
  · obtain ⟨⟨hx0, hx1, hx2, hx3, hx4, hx5⟩, _⟩ := hx; go_simp; try with_reducible rfl
  refine tkH 1 ?_ hS (fun wx hx => ?_) ?_; rotate_left
  · obtain ⟨⟨hx0, hx1, hx2, hx3, hx4, hx5⟩, _⟩ := hx; go_simp; try with_reducible rfl
  refine tkH 2 ?_ hS (fun wx hx => ?_) ?_; rotate_left
  · obtain ⟨⟨hx0, hx1, hx2, hx3, hx4, hx5⟩, _⟩ := hx; go_simp; try with_reducible rfl
  refine tkH 3 ?_ hS (fun wx hx => ?_) ?_; rotate_left
  · obtain ⟨⟨hx0, hx1, hx2, hx3, hx4, hx5⟩, _⟩ := hx; go_simp; try with_reducible rfl
  refine tkH 4 ?_ hS (fun wx hx => ?_) ?_; rotate_left
  · obtain ⟨⟨hx0, hx1, hx2, hx3, hx4, hx5⟩, _⟩ := hx; go_simp; try with_reducible rfl
  refine tkH 5 ?_ hS (fun wx hx => ?_) ?_; rotate_left
  · obtain ⟨⟨hx0, hx1, hx2, hx3, hx4, hx5⟩, _⟩ := hx; go_simp; try with_reducible rfl
  refine tkH 6 ?_ hS (fun wx hx => ?_) ?_; rotate_left
  · obtain ⟨⟨hx0, hx1, hx2, hx3, hx4, hx5⟩, _⟩ := hx; go_simp; try with_reducible rfl
  refine tkH 7 ?_ hS (fun wx hx => ?_) ?_; rotate_left
  · obtain ⟨⟨hx0, hx1, hx2, hx3, hx4, hx5⟩, _⟩ := hx; go_simp; try with_reducible rfl
  refine tkH 8 ?_ hS (fun wx hx => ?_) ?_; rotate_left
  · obtain ⟨⟨hx0, hx1, hx2, hx3, hx4, hx5⟩, _⟩ := hx; go_simp; try with_reducible rfl
  refine tkH 10 ?_ hS (fun wx hx => ?_) ?_; rotate_left
  · obtain ⟨⟨hx0, hx1, hx2, hx3, hx4, hx5⟩, _⟩ := hx; go_simp; try with_reducible rfl
  refine rdH 9 (fun K hK => ?_)
  go_simp
  go_wp2_with fail
  refine (ofE_is td tn HC.out.2.2.2.2.2.1 HC.out.2.2.2.2.2.2 _).mono ?_
  rintro e w9 ⟨rfl, hw9⟩
  obtain rfl := hw9.symm
  go_wp2_with fail
  refine hK.out _ _ hS (fun hS => ?_)
  clear hK K
  refine rdH 11 (fun K hK => ?_)
  go_simp
  go_wp2_with fail
  refine (l13Put_is (kE td tn) (c) w0 _ 0 _ 1 _ S3.out.drew (by omega)).mono ?_
  rintro e w4 ⟨rfl, st⟩
  have S4 : Hid (StP w0 w4 0 _ (1 + 1) _) := st
  have hSx := HC.out.op st
  clear st
  go_wp2_with fail
  refine hK.out _ _ hSx (fun hS => ?_)
  clear hK K
  refine wpAnyH_done (by kernel_rfl) ?_ _
  go_simp
  go_wp2
  go_ret
  exact ⟨rfl, S4.out⟩
end Go.Proofs.YtnchaccgenfhoaaGreat

namespace Go.Proofs.YtnchaccgenfhoaaGreat
open Go.RowKit

theorem l1Min_is (a : Int) (w : World) : Calls Tryz.prog 122 #[.int .i64 a, .int .i64 9] w fun e w' => e = .returned (.int .i64 (minC a)) ∧ w' = w := by
  unfold minC
  by_cases h : a < 9
  · rw [if_pos h]
    go_enter Tryz.func122, Tryz.ntmps122
    go_wp2
    go_ret
    exact ⟨rfl, rfl⟩
  · rw [if_neg h]
    have e : decide (a < 9) = false := decide_eq_false h
    go_enter Tryz.func122, Tryz.ntmps122
    go_wp2
    go_ret
    exact ⟨rfl, rfl⟩
theorem minC_in {a : Int} (h : 0 ≤ a) : 0 ≤ minC a ∧ minC a ≤ 9 := by unfold minC; split <;> omega
set_option maxRecDepth 100000 in
set_option maxHeartbeats 4000000 in
theorem l13Child_is (L : Prs) (y : Value) (bo oo : Nat) (kd d n td tn vv : Int) (w0 w : World) (ch : Int) (xs : List Int) (hc : Ctx w0 L y bo oo kd d n td tn vv) (hs : StP w0 w 0 xs 0 []) (hx : xs.length ≤ 700) (hch : 0 ≤ ch) (hkd : 3 ≤ kd ∧ kd ≤ 8) (r v : Int) (ys : List Int) (m : Nat) (W : List Int) (hp : childP L kd d n td tn vv ch xs = (r, v, ys, m, W)) :
    Calls Tryz.prog 106 #[.pointer (some ⟨w0.heap.size, 0, none⟩), y, .pointer (some ⟨bo, oo, none⟩), .int .i64 ch] w fun e w' => e = .returned (.int .i64 r) ∧ StP w0 w' v ys m W := by
  have HC : Hid (Ctx w0 L y bo oo kd d n td tn vv) := hc
  have HS : Hid (StP w0 w 0 xs 0 []) := hs
  have hl := hc.1.2
  obtain ⟨c, hcq⟩ : ∃ c, minC ch = c := ⟨_, rfl⟩
  have HM : Hid (minC ch = c ∧ (0 ≤ c ∧ c ≤ 9)) := ⟨hcq, hcq ▸ minC_in hch⟩
  have hlen := addR_len xs (kI c)
  obtain ⟨s, hsq⟩ : ∃ s, lookF L (kI c) = s := ⟨_, rfl⟩
  obtain ⟨sh, sz⟩ := s
  have HL : Hid (lookF L (kI c) = (sh, sz)) := hsq
  have HV : Hid (0 ≤ sz ∧ sz ≤ 9999) := by have := hc.2.2.1 (kI c); rw [hsq] at this; exact this
  unfold childP at hp
  rw [hcq, hsq] at hp
  have HP : Hid ((if kd = 3 then removeP L d n c (sh, sz).2 (addR xs (kI c))
    else if kd = 4 then moveP L d n td tn c (sh, sz).2 (addR xs (kI c))
    else if kd = 5 then linkP L td tn c (sh, sz).2 (addR xs (kI c))
    else if kd = 8 then (0, (sh, sz).2, addR xs (kI c), 0, [])
    else if (sh, sz).2 = 1000 then (9, 0, addR xs (kI c), 0, [])
    else if kd = 6 then (0, 0, addR xs (kI c), 1, [kB c, 1, vv])
    else (0, (lookF L (kB c)).2, addR (addR xs (kI c)) (kB c), 0, [])) = (r, v, ys, m, W)) := hp
  clear hc hs hsq hcq hch hp
  by_cases h3 : kd = 3
  · subst h3
    have hp := HP.out
    rw [if_pos rfl] at hp
    have HQ : Hid (removeP L d n c sz (addR xs (kI c)) = (r, v, ys, m, W)) := hp
    clear hp HP hkd
    go_enter Tryz.func106, Tryz.ntmps106
    go_wp2_with fail
    refine (l1Min_is ch _).mono ?_
    rintro e w9 ⟨rfl, hw9⟩
    obtain rfl := hw9.symm
    rw [HM.out.1]
    go_wp2_with fail
    refine (ofI_is c HM.out.2 _).mono ?_
    rintro e w9 ⟨rfl, hw9⟩
    obtain rfl := hw9.symm
    go_wp2_with fail
    refine (l13Read_is (kI c) L y w0 _ 0 xs 0 [] HC.out.1.1 (by omega) HS.out (by omega)).mono ?_
    rintro e w1 ⟨rfl, s1⟩
    have S1 : Hid (StP w0 w1 0 (addR xs (kI c)) 0 []) := s1
    rw [HL.out]
    obtain ⟨⟨o0, o1, o2, o3, o4, o5⟩, _⟩ := HC.out.op s1
    clear s1
    go_wp2_with fail
    refine (ofB_is c HM.out.2 _).mono ?_
    rintro e w9 ⟨rfl, hw9⟩
    obtain rfl := hw9.symm
    go_wp2_with fail
    refine (l13Remove_is L y bo oo _ d n td tn vv w0 _ c sz _ HC.out S1.out (by omega) HM.out.2 HV.out r v ys m W HQ.out).mono ?_
    rintro e w2 ⟨rfl, s2⟩
    have S2 : Hid (StP w0 w2 v ys m W) := s2
    clear s2
    go_wp2
    go_ret
    exact ⟨rfl, S2.out⟩
  by_cases h4 : kd = 4
  · subst h4
    have hp := HP.out
    rw [if_neg h3, if_pos rfl] at hp
    have HQ : Hid (moveP L d n td tn c sz (addR xs (kI c)) = (r, v, ys, m, W)) := hp
    clear hp HP hkd h3
    go_enter Tryz.func106, Tryz.ntmps106
    go_wp2_with fail
    refine (l1Min_is ch _).mono ?_
    rintro e w9 ⟨rfl, hw9⟩
    obtain rfl := hw9.symm
    rw [HM.out.1]
    go_wp2_with fail
    refine (ofI_is c HM.out.2 _).mono ?_
    rintro e w9 ⟨rfl, hw9⟩
    obtain rfl := hw9.symm
    go_wp2_with fail
    refine (l13Read_is (kI c) L y w0 _ 0 xs 0 [] HC.out.1.1 (by omega) HS.out (by omega)).mono ?_
    rintro e w1 ⟨rfl, s1⟩
    have S1 : Hid (StP w0 w1 0 (addR xs (kI c)) 0 []) := s1
    rw [HL.out]
    obtain ⟨⟨o0, o1, o2, o3, o4, o5⟩, _⟩ := HC.out.op s1
    clear s1
    go_wp2_with fail
    refine (ofB_is c HM.out.2 _).mono ?_
    rintro e w9 ⟨rfl, hw9⟩
    obtain rfl := hw9.symm
    go_wp2_with fail
    refine (l13Move_is L y bo oo _ d n td tn vv w0 _ c sz _ HC.out S1.out (by omega) HM.out.2 HV.out r v ys m W HQ.out).mono ?_
    rintro e w2 ⟨rfl, s2⟩
    have S2 : Hid (StP w0 w2 v ys m W) := s2
    clear s2
    go_wp2
    go_ret
    exact ⟨rfl, S2.out⟩
  by_cases h5 : kd = 5
  · subst h5
    have hp := HP.out
    rw [if_neg h3, if_neg h4, if_pos rfl] at hp
    have HQ : Hid (linkP L td tn c sz (addR xs (kI c)) = (r, v, ys, m, W)) := hp
    clear hp HP hkd h3 h4
    go_enter Tryz.func106, Tryz.ntmps106
    go_wp2_with fail
    refine (l1Min_is ch _).mono ?_
    rintro e w9 ⟨rfl, hw9⟩
    obtain rfl := hw9.symm
    rw [HM.out.1]
    go_wp2_with fail
    refine (ofI_is c HM.out.2 _).mono ?_
    rintro e w9 ⟨rfl, hw9⟩
    obtain rfl := hw9.symm
    go_wp2_with fail
    refine (l13Read_is (kI c) L y w0 _ 0 xs 0 [] HC.out.1.1 (by omega) HS.out (by omega)).mono ?_
    rintro e w1 ⟨rfl, s1⟩
    have S1 : Hid (StP w0 w1 0 (addR xs (kI c)) 0 []) := s1
    rw [HL.out]
    obtain ⟨⟨o0, o1, o2, o3, o4, o5⟩, _⟩ := HC.out.op s1
    clear s1
    go_wp2_with fail
    refine (ofB_is c HM.out.2 _).mono ?_
    rintro e w9 ⟨rfl, hw9⟩
    obtain rfl := hw9.symm
    go_wp2_with fail
    refine (l13Link_is L y bo oo _ d n td tn vv w0 _ c sz _ HC.out S1.out (by omega) HM.out.2 HV.out r v ys m W HQ.out).mono ?_
    rintro e w2 ⟨rfl, s2⟩
    have S2 : Hid (StP w0 w2 v ys m W) := s2
    clear s2
    go_wp2
    go_ret
    exact ⟨rfl, S2.out⟩
  by_cases h8 : kd = 8
  · subst h8
    have hp := HP.out
    rw [if_neg h3, if_neg h4, if_neg h5, if_pos rfl] at hp
    simp only [Prod.mk.injEq] at hp
    obtain ⟨rfl, rfl, rfl, rfl, rfl⟩ := hp
    clear HP hkd h3 h4 h5
    go_enter Tryz.func106, Tryz.ntmps106
    go_wp2_with fail
    refine (l1Min_is ch _).mono ?_
    rintro e w9 ⟨rfl, hw9⟩
    obtain rfl := hw9.symm
    rw [HM.out.1]
    go_wp2_with fail
    refine (ofI_is c HM.out.2 _).mono ?_
    rintro e w9 ⟨rfl, hw9⟩
    obtain rfl := hw9.symm
    go_wp2_with fail
    refine (l13Read_is (kI c) L y w0 _ 0 xs 0 [] HC.out.1.1 (by omega) HS.out (by omega)).mono ?_
    rintro e w1 ⟨rfl, s1⟩
    have S1 : Hid (StP w0 w1 0 (addR xs (kI c)) 0 []) := s1
    rw [HL.out]
    obtain ⟨⟨o0, o1, o2, o3, o4, o5⟩, _⟩ := HC.out.op s1
    clear s1
    go_wp2_with fail
    refine (ofB_is c HM.out.2 _).mono ?_
    rintro e w9 ⟨rfl, hw9⟩
    obtain rfl := hw9.symm
    obtain ⟨q0, vr, vw, ⟨⟨c0, c1, c2, c3, c4⟩, f0, f1, f2, f3, f4⟩, _⟩ := S1.out
    go_wp2
    go_ret
    exact ⟨rfl, S1.out.value _⟩
  have hp := HP.out
  rw [if_neg h3, if_neg h4, if_neg h5, if_neg h8] at hp
  clear HP
  obtain rfl | rfl : kd = 6 ∨ kd = 7 := by omega
  · rw [if_pos rfl] at hp
    by_cases hz : sz = 1000
    · subst hz
      rw [if_pos rfl] at hp
      simp only [Prod.mk.injEq] at hp
      obtain ⟨rfl, rfl, rfl, rfl, rfl⟩ := hp
      clear h3 h4 h5 h8 hkd
      go_enter Tryz.func106, Tryz.ntmps106
      go_wp2_with fail
      refine (l1Min_is ch _).mono ?_
      rintro e w9 ⟨rfl, hw9⟩
      obtain rfl := hw9.symm
      rw [HM.out.1]
      go_wp2_with fail
      refine (ofI_is c HM.out.2 _).mono ?_
      rintro e w9 ⟨rfl, hw9⟩
      obtain rfl := hw9.symm
      go_wp2_with fail
      refine (l13Read_is (kI c) L y w0 _ 0 xs 0 [] HC.out.1.1 (by omega) HS.out (by omega)).mono ?_
      rintro e w1 ⟨rfl, s1⟩
      have S1 : Hid (StP w0 w1 0 (addR xs (kI c)) 0 []) := s1
      rw [HL.out]
      obtain ⟨⟨o0, o1, o2, o3, o4, o5⟩, _⟩ := HC.out.op s1
      clear s1
      go_wp2_with fail
      refine (ofB_is c HM.out.2 _).mono ?_
      rintro e w9 ⟨rfl, hw9⟩
      obtain rfl := hw9.symm
      go_wp2
      go_ret
      exact ⟨rfl, S1.out⟩
    · have ez : (sz == 1000) = false := beq_eq_false_iff_ne.2 hz
      rw [if_neg hz] at hp
      simp only [Prod.mk.injEq] at hp
      obtain ⟨rfl, rfl, rfl, rfl, rfl⟩ := hp
      clear h3 h4 h5 h8 hkd hz
      go_enter Tryz.func106, Tryz.ntmps106
      go_wp2_with fail
      refine (l1Min_is ch _).mono ?_
      rintro e w9 ⟨rfl, hw9⟩
      obtain rfl := hw9.symm
      rw [HM.out.1]
      go_wp2_with fail
      refine (ofI_is c HM.out.2 _).mono ?_
      rintro e w9 ⟨rfl, hw9⟩
      obtain rfl := hw9.symm
      go_wp2_with fail
      refine (l13Read_is (kI c) L y w0 _ 0 xs 0 [] HC.out.1.1 (by omega) HS.out (by omega)).mono ?_
      rintro e w1 ⟨rfl, s1⟩
      have S1 : Hid (StP w0 w1 0 (addR xs (kI c)) 0 []) := s1
      rw [HL.out]
      obtain ⟨⟨o0, o1, o2, o3, o4, o5⟩, _⟩ := HC.out.op s1
      clear s1
      go_wp2_with fail
      refine (ofB_is c HM.out.2 _).mono ?_
      rintro e w9 ⟨rfl, hw9⟩
      obtain rfl := hw9.symm
      go_wp2_with fail
      refine (l13Put_is (kB c) (vv) w0 _ 0 _ 0 _ S1.out (by omega)).mono ?_
      rintro e w2 ⟨rfl, st⟩
      have S2 : Hid (StP w0 w2 0 _ (0 + 1) _) := st
      clear st
      go_wp2
      go_ret
      exact ⟨rfl, S2.out⟩
  · rw [if_neg (show ¬ ((7 : Int) = 6) by omega)] at hp
    by_cases hz : sz = 1000
    · subst hz
      rw [if_pos rfl] at hp
      simp only [Prod.mk.injEq] at hp
      obtain ⟨rfl, rfl, rfl, rfl, rfl⟩ := hp
      clear h3 h4 h5 h8 hkd
      go_enter Tryz.func106, Tryz.ntmps106
      go_wp2_with fail
      refine (l1Min_is ch _).mono ?_
      rintro e w9 ⟨rfl, hw9⟩
      obtain rfl := hw9.symm
      rw [HM.out.1]
      go_wp2_with fail
      refine (ofI_is c HM.out.2 _).mono ?_
      rintro e w9 ⟨rfl, hw9⟩
      obtain rfl := hw9.symm
      go_wp2_with fail
      refine (l13Read_is (kI c) L y w0 _ 0 xs 0 [] HC.out.1.1 (by omega) HS.out (by omega)).mono ?_
      rintro e w1 ⟨rfl, s1⟩
      have S1 : Hid (StP w0 w1 0 (addR xs (kI c)) 0 []) := s1
      rw [HL.out]
      obtain ⟨⟨o0, o1, o2, o3, o4, o5⟩, _⟩ := HC.out.op s1
      clear s1
      go_wp2_with fail
      refine (ofB_is c HM.out.2 _).mono ?_
      rintro e w9 ⟨rfl, hw9⟩
      obtain rfl := hw9.symm
      go_wp2
      go_ret
      exact ⟨rfl, S1.out⟩
    · have ez : (sz == 1000) = false := beq_eq_false_iff_ne.2 hz
      rw [if_neg hz] at hp
      simp only [Prod.mk.injEq] at hp
      obtain ⟨rfl, rfl, rfl, rfl, rfl⟩ := hp
      clear h3 h4 h5 h8 hkd hz
      go_enter Tryz.func106, Tryz.ntmps106
      go_wp2_with fail
      refine (l1Min_is ch _).mono ?_
      rintro e w9 ⟨rfl, hw9⟩
      obtain rfl := hw9.symm
      rw [HM.out.1]
      go_wp2_with fail
      refine (ofI_is c HM.out.2 _).mono ?_
      rintro e w9 ⟨rfl, hw9⟩
      obtain rfl := hw9.symm
      go_wp2_with fail
      refine (l13Read_is (kI c) L y w0 _ 0 xs 0 [] HC.out.1.1 (by omega) HS.out (by omega)).mono ?_
      rintro e w1 ⟨rfl, s1⟩
      have S1 : Hid (StP w0 w1 0 (addR xs (kI c)) 0 []) := s1
      rw [HL.out]
      obtain ⟨⟨o0, o1, o2, o3, o4, o5⟩, _⟩ := HC.out.op s1
      clear s1
      go_wp2_with fail
      refine (ofB_is c HM.out.2 _).mono ?_
      rintro e w9 ⟨rfl, hw9⟩
      obtain rfl := hw9.symm
      go_wp2_with fail
      refine (l13Read_is (kB c) L y w0 _ 0 _ 0 [] HC.out.1.1 (by omega) S1.out (by omega)).mono ?_
      rintro e w2 ⟨rfl, s2⟩
      have S2 : Hid (StP w0 w2 0 (addR (addR xs (kI c)) (kB c)) 0 []) := s2
      obtain ⟨q0, vr, vw, ⟨⟨c0, c1, c2, c3, c4⟩, f0, f1, f2, f3, f4⟩, _⟩ := s2
      clear o0 o1 o2 o3 o4 o5 q0
      go_wp2
      go_ret
      exact ⟨rfl, S2.out.value _⟩
set_option maxRecDepth 100000 in
set_option maxHeartbeats 4000000 in
theorem l13Reply_is (L : Prs) (y : Value) (bo oo : Nat) (kd d n td tn vv : Int) (w0 w : World) (hc : Ctx w0 L y bo oo kd d n td tn vv) (hs : StP w0 w 0 [] 0 []) (hkd : 1 ≤ kd ∧ kd ≤ 8) (r v : Int) (ys : List Int) (m : Nat) (W : List Int) (hp : replyP L kd d n td tn vv = (r, v, ys, m, W)) :
    Calls Tryz.prog 85 #[.pointer (some ⟨w0.heap.size, 0, none⟩), y, .pointer (some ⟨bo, oo, none⟩)] w fun e w' => e = .returned (.int .i64 r) ∧ StP w0 w' v ys m W := by
  have HC : Hid (Ctx w0 L y bo oo kd d n td tn vv) := hc
  have HS : Hid (StP w0 w 0 [] 0 []) := hs
  have hl := hc.1.2
  obtain ⟨⟨o0, o1, o2, o3, o4, o5⟩, _⟩ := hc.op hs
  have hlen := addR_len [] (kI d)
  have hlen2 := addR_len (addR [] (kI d)) (kE d n)
  simp only [List.length_nil] at hlen
  obtain ⟨s, hsq⟩ : ∃ s, lookF L (kI d) = s := ⟨_, rfl⟩
  obtain ⟨sh, sz⟩ := s
  have HL : Hid (lookF L (kI d) = (sh, sz)) := hsq
  unfold replyP at hp
  rw [dir_iff hsq] at hp
  clear hc hs hsq
  by_cases h1 : (sz == 1000) = true
  case neg =>
    rw [if_neg h1] at hp
    simp only [Prod.mk.injEq] at hp
    obtain ⟨rfl, rfl, rfl, rfl, rfl⟩ := hp
    have e1 : (sz != 1000) = true := by simpa [bne] using h1
    clear h1
    go_enter Tryz.func85, Tryz.ntmps85
    go_wp2_with fail
    refine (ofI_is d HC.out.2.2.2.1 _).mono ?_
    rintro e w9 ⟨rfl, hw9⟩
    obtain rfl := hw9.symm
    go_wp2_with fail
    refine (l13Read_is (kI d) L y w0 _ 0 [] 0 [] HC.out.1.1 (by omega) HS.out (by simp)).mono ?_
    rintro e w1 ⟨rfl, s1⟩
    have S1 : Hid (StP w0 w1 0 (addR [] (kI d)) 0 []) := s1
    rw [HL.out]
    clear s1 o0 o1 o2 o3 o4 o5
    cases sh with
    | true =>
      go_wp2
      go_ret
      exact ⟨rfl, S1.out⟩
    | false =>
      go_wp2
      go_ret
      exact ⟨rfl, S1.out⟩
  rw [if_pos h1] at hp
  obtain rfl : sz = 1000 := by simpa using h1
  obtain rfl : sh = true := by
    cases sh with
    | true => rfl
    | false => have := look_zero HL.out; omega
  clear h1
  obtain ⟨t, htq⟩ : ∃ t, lookF L (kE d n) = t := ⟨_, rfl⟩
  obtain ⟨th, tz⟩ := t
  have HT : Hid (lookF L (kE d n) = (th, tz)) := htq
  have HTZ : Hid (0 ≤ tz) := by have := (HC.out.2.2.1 (kE d n)).1; rw [htq] at this; exact this
  rw [htq] at hp
  clear htq
  by_cases hk : kd = 1 ∨ kd = 2
  · rw [if_pos hk] at hp
    cases th with
    | true =>
      simp only [if_true, Prod.mk.injEq] at hp
      obtain ⟨rfl, rfl, rfl, rfl, rfl⟩ := hp
      go_enter Tryz.func85, Tryz.ntmps85
      go_wp2_with fail
      refine (ofI_is d HC.out.2.2.2.1 _).mono ?_
      rintro e w9 ⟨rfl, hw9⟩
      obtain rfl := hw9.symm
      go_wp2_with fail
      refine (l13Read_is (kI d) L y w0 _ 0 [] 0 [] HC.out.1.1 (by omega) HS.out (by simp)).mono ?_
      rintro e w1 ⟨rfl, s1⟩
      have S1 : Hid (StP w0 w1 0 (addR [] (kI d)) 0 []) := s1
      rw [HL.out]
      clear s1 o0 o1 o2 o3 o4 o5
      go_upto_region 4 with fail
      refine wp_region_held_drew (S := fun X => opBO X bo oo kd d n td tn vv) (by kernel_rfl) (HC.out.op S1.out.drew) (fun hS => ?_)
      refine tkH 0 ?_ hS (fun wx hx => ?_) ?_; rotate_left
      · obtain ⟨⟨hx0, hx1, hx2, hx3, hx4, hx5⟩, _⟩ := hx; go_simp; try with_reducible rfl
      refine tkH 1 ?_ hS (fun wx hx => ?_) ?_; rotate_left
      · obtain ⟨⟨hx0, hx1, hx2, hx3, hx4, hx5⟩, _⟩ := hx; go_simp; try with_reducible rfl
      refine tkH 2 ?_ hS (fun wx hx => ?_) ?_; rotate_left
      · obtain ⟨⟨hx0, hx1, hx2, hx3, hx4, hx5⟩, _⟩ := hx; go_simp; try with_reducible rfl
      refine tkH 3 ?_ hS (fun wx hx => ?_) ?_; rotate_left
      · obtain ⟨⟨hx0, hx1, hx2, hx3, hx4, hx5⟩, _⟩ := hx; go_simp; try with_reducible rfl
      refine tkH 4 ?_ hS (fun wx hx => ?_) ?_; rotate_left
      · obtain ⟨⟨hx0, hx1, hx2, hx3, hx4, hx5⟩, _⟩ := hx; go_simp; try with_reducible rfl
      refine tkH 5 ?_ hS (fun wx hx => ?_) ?_; rotate_left
      · obtain ⟨⟨hx0, hx1, hx2, hx3, hx4, hx5⟩, _⟩ := hx; go_simp; try with_reducible rfl
      refine tkH 6 ?_ hS (fun wx hx => ?_) ?_; rotate_left
      · obtain ⟨⟨hx0, hx1, hx2, hx3, hx4, hx5⟩, _⟩ := hx; go_simp; try with_reducible rfl
      refine tkH 7 ?_ hS (fun wx hx => ?_) ?_; rotate_left
      · obtain ⟨⟨hx0, hx1, hx2, hx3, hx4, hx5⟩, _⟩ := hx; go_simp; try with_reducible rfl
      refine tkH 8 ?_ hS (fun wx hx => ?_) ?_; rotate_left
      · obtain ⟨⟨hx0, hx1, hx2, hx3, hx4, hx5⟩, _⟩ := hx; go_simp; try with_reducible rfl
      refine tkH 9 ?_ hS (fun wx hx => ?_) ?_; rotate_left
      · obtain ⟨⟨hx0, hx1, hx2, hx3, hx4, hx5⟩, _⟩ := hx; go_simp; try with_reducible rfl
      refine rdH 10 (fun K hK => ?_)
      go_simp
      go_wp2_with fail
      refine (ofE_is d n HC.out.2.2.2.1 HC.out.2.2.2.2.1 _).mono ?_
      rintro e w9 ⟨rfl, hw9⟩
      obtain rfl := hw9.symm
      go_wp2_with fail
      refine hK.out _ _ hS (fun hS => ?_)
      clear hK K
      refine rdH 11 (fun K hK => ?_)
      go_simp
      go_wp2_with fail
      refine (l13Read_is (kE d n) L y w0 _ 0 (addR [] (kI d)) 0 [] HC.out.1.1 (by omega) S1.out.drew (by omega)).mono ?_
      rintro e w2 ⟨rfl, s2⟩
      have S2 : Hid (StP w0 w2 0 (addR (addR [] (kI d)) (kE d n)) 0 []) := s2
      have hS2 := HC.out.op s2
      rw [HT.out]
      clear s2
      go_wp2_with fail
      refine hK.out _ _ hS2 (fun hS => ?_)
      clear hK K
      refine tkH 12 ?_ hS (fun wx hx => ?_) ?_; rotate_left
      · obtain ⟨⟨hx0, hx1, hx2, hx3, hx4, hx5⟩, _⟩ := hx; go_simp; try with_reducible rfl
      refine tkH 13 ?_ hS (fun wx hx => ?_) ?_; rotate_left
      · obtain ⟨⟨hx0, hx1, hx2, hx3, hx4, hx5⟩, _⟩ := hx; go_simp; try with_reducible rfl
      refine tkH 14 ?_ hS (fun wx hx => ?_) ?_; rotate_left
      · obtain ⟨⟨hx0, hx1, hx2, hx3, hx4, hx5⟩, _⟩ := hx; go_simp; try with_reducible rfl
      refine tkH 15 ?_ hS (fun wx hx => ?_) ?_; rotate_left
      · obtain ⟨⟨hx0, hx1, hx2, hx3, hx4, hx5⟩, _⟩ := hx; go_simp; try with_reducible rfl
      refine tkH 16 ?_ hS (fun wx hx => ?_) ?_; rotate_left
      · obtain ⟨⟨hx0, hx1, hx2, hx3, hx4, hx5⟩, _⟩ := hx; go_simp; try with_reducible rfl
      refine wpAnyH_done (by kernel_rfl) ?_ _
      go_simp
      obtain ⟨⟨o0, o1, o2, o3, o4, o5⟩, _⟩ := hS
      rcases hk with rfl | rfl
      · go_wp2
        go_ret
        exact ⟨rfl, S2.out⟩
      · go_wp2
        go_ret
        exact ⟨rfl, S2.out⟩
    | false =>
      simp only [Bool.false_eq_true, if_false] at hp
      have HP : Hid (makeP L kd d n (addR (addR [] (kI d)) (kE d n)) = (r, v, ys, m, W)) := hp
      clear hp
      go_enter Tryz.func85, Tryz.ntmps85
      go_wp2_with fail
      refine (ofI_is d HC.out.2.2.2.1 _).mono ?_
      rintro e w9 ⟨rfl, hw9⟩
      obtain rfl := hw9.symm
      go_wp2_with fail
      refine (l13Read_is (kI d) L y w0 _ 0 [] 0 [] HC.out.1.1 (by omega) HS.out (by simp)).mono ?_
      rintro e w1 ⟨rfl, s1⟩
      have S1 : Hid (StP w0 w1 0 (addR [] (kI d)) 0 []) := s1
      rw [HL.out]
      clear s1 o0 o1 o2 o3 o4 o5
      go_upto_region 4 with fail
      refine wp_region_held_drew (S := fun X => opBO X bo oo kd d n td tn vv) (by kernel_rfl) (HC.out.op S1.out.drew) (fun hS => ?_)
      refine tkH 0 ?_ hS (fun wx hx => ?_) ?_; rotate_left
      · obtain ⟨⟨hx0, hx1, hx2, hx3, hx4, hx5⟩, _⟩ := hx; go_simp; try with_reducible rfl
      refine tkH 1 ?_ hS (fun wx hx => ?_) ?_; rotate_left
      · obtain ⟨⟨hx0, hx1, hx2, hx3, hx4, hx5⟩, _⟩ := hx; go_simp; try with_reducible rfl
      refine tkH 2 ?_ hS (fun wx hx => ?_) ?_; rotate_left
      · obtain ⟨⟨hx0, hx1, hx2, hx3, hx4, hx5⟩, _⟩ := hx; go_simp; try with_reducible rfl
      refine tkH 3 ?_ hS (fun wx hx => ?_) ?_; rotate_left
      · obtain ⟨⟨hx0, hx1, hx2, hx3, hx4, hx5⟩, _⟩ := hx; go_simp; try with_reducible rfl
      refine tkH 4 ?_ hS (fun wx hx => ?_) ?_; rotate_left
      · obtain ⟨⟨hx0, hx1, hx2, hx3, hx4, hx5⟩, _⟩ := hx; go_simp; try with_reducible rfl
      refine tkH 5 ?_ hS (fun wx hx => ?_) ?_; rotate_left
      · obtain ⟨⟨hx0, hx1, hx2, hx3, hx4, hx5⟩, _⟩ := hx; go_simp; try with_reducible rfl
      refine tkH 6 ?_ hS (fun wx hx => ?_) ?_; rotate_left
      · obtain ⟨⟨hx0, hx1, hx2, hx3, hx4, hx5⟩, _⟩ := hx; go_simp; try with_reducible rfl
      refine tkH 7 ?_ hS (fun wx hx => ?_) ?_; rotate_left
      · obtain ⟨⟨hx0, hx1, hx2, hx3, hx4, hx5⟩, _⟩ := hx; go_simp; try with_reducible rfl
      refine tkH 8 ?_ hS (fun wx hx => ?_) ?_; rotate_left
      · obtain ⟨⟨hx0, hx1, hx2, hx3, hx4, hx5⟩, _⟩ := hx; go_simp; try with_reducible rfl
      refine tkH 9 ?_ hS (fun wx hx => ?_) ?_; rotate_left
      · obtain ⟨⟨hx0, hx1, hx2, hx3, hx4, hx5⟩, _⟩ := hx; go_simp; try with_reducible rfl
      refine rdH 10 (fun K hK => ?_)
      go_simp
      go_wp2_with fail
      refine (ofE_is d n HC.out.2.2.2.1 HC.out.2.2.2.2.1 _).mono ?_
      rintro e w9 ⟨rfl, hw9⟩
      obtain rfl := hw9.symm
      go_wp2_with fail
      refine hK.out _ _ hS (fun hS => ?_)
      clear hK K
      refine rdH 11 (fun K hK => ?_)
      go_simp
      go_wp2_with fail
      refine (l13Read_is (kE d n) L y w0 _ 0 (addR [] (kI d)) 0 [] HC.out.1.1 (by omega) S1.out.drew (by omega)).mono ?_
      rintro e w2 ⟨rfl, s2⟩
      have S2 : Hid (StP w0 w2 0 (addR (addR [] (kI d)) (kE d n)) 0 []) := s2
      have hS2 := HC.out.op s2
      rw [HT.out]
      clear s2
      go_wp2_with fail
      refine hK.out _ _ hS2 (fun hS => ?_)
      clear hK K
      refine tkH 12 ?_ hS (fun wx hx => ?_) ?_; rotate_left
      · obtain ⟨⟨hx0, hx1, hx2, hx3, hx4, hx5⟩, _⟩ := hx; go_simp; try with_reducible rfl
      refine tkH 13 ?_ hS (fun wx hx => ?_) ?_; rotate_left
      · obtain ⟨⟨hx0, hx1, hx2, hx3, hx4, hx5⟩, _⟩ := hx; go_simp; try with_reducible rfl
      refine tkH 14 ?_ hS (fun wx hx => ?_) ?_; rotate_left
      · obtain ⟨⟨hx0, hx1, hx2, hx3, hx4, hx5⟩, _⟩ := hx; go_simp; try with_reducible rfl
      refine tkH 15 ?_ hS (fun wx hx => ?_) ?_; rotate_left
      · obtain ⟨⟨hx0, hx1, hx2, hx3, hx4, hx5⟩, _⟩ := hx; go_simp; try with_reducible rfl
      refine tkH 16 ?_ hS (fun wx hx => ?_) ?_; rotate_left
      · obtain ⟨⟨hx0, hx1, hx2, hx3, hx4, hx5⟩, _⟩ := hx; go_simp; try with_reducible rfl
      refine wpAnyH_done (by kernel_rfl) ?_ _
      go_simp
      obtain ⟨⟨o0, o1, o2, o3, o4, o5⟩, _⟩ := hS
      rcases hk with rfl | rfl
      · go_wp2_with fail
        refine (l13Make_is L y bo oo _ d n td tn vv w0 _ _ HC.out S2.out (by omega) r v ys m W HP.out).mono ?_
        rintro e w3 ⟨rfl, s3⟩
        have S3 : Hid (StP w0 w3 v ys m W) := s3
        clear s3
        go_wp2
        go_ret
        exact ⟨rfl, S3.out⟩
      · go_wp2_with fail
        refine (l13Make_is L y bo oo _ d n td tn vv w0 _ _ HC.out S2.out (by omega) r v ys m W HP.out).mono ?_
        rintro e w3 ⟨rfl, s3⟩
        have S3 : Hid (StP w0 w3 v ys m W) := s3
        clear s3
        go_wp2
        go_ret
        exact ⟨rfl, S3.out⟩
  have e1 : (kd == 1) = false := beq_eq_false_iff_ne.2 (by omega)
  have e2 : (kd == 2) = false := beq_eq_false_iff_ne.2 (by omega)
  have hk3 : 3 ≤ kd ∧ kd ≤ 8 := by omega
  have HK : Hid (3 ≤ kd ∧ kd ≤ 8) := hk3
  rw [if_neg hk] at hp
  clear hk hk3
  cases th with
  | true =>
    simp only [if_true] at hp
    have HP : Hid (childP L kd d n td tn vv tz (addR (addR [] (kI d)) (kE d n)) = (r, v, ys, m, W)) := hp
    clear hp hkd
    go_enter Tryz.func85, Tryz.ntmps85
    go_wp2_with fail
    refine (ofI_is d HC.out.2.2.2.1 _).mono ?_
    rintro e w9 ⟨rfl, hw9⟩
    obtain rfl := hw9.symm
    go_wp2_with fail
    refine (l13Read_is (kI d) L y w0 _ 0 [] 0 [] HC.out.1.1 (by omega) HS.out (by simp)).mono ?_
    rintro e w1 ⟨rfl, s1⟩
    have S1 : Hid (StP w0 w1 0 (addR [] (kI d)) 0 []) := s1
    rw [HL.out]
    clear s1 o0 o1 o2 o3 o4 o5
    go_upto_region 4 with fail
    refine wp_region_held_drew (S := fun X => opBO X bo oo kd d n td tn vv) (by kernel_rfl) (HC.out.op S1.out.drew) (fun hS => ?_)
    refine tkH 0 ?_ hS (fun wx hx => ?_) ?_; rotate_left
    · obtain ⟨⟨hx0, hx1, hx2, hx3, hx4, hx5⟩, _⟩ := hx; go_simp; try with_reducible rfl
    refine tkH 1 ?_ hS (fun wx hx => ?_) ?_; rotate_left
    · obtain ⟨⟨hx0, hx1, hx2, hx3, hx4, hx5⟩, _⟩ := hx; go_simp; try with_reducible rfl
    refine tkH 2 ?_ hS (fun wx hx => ?_) ?_; rotate_left
    · obtain ⟨⟨hx0, hx1, hx2, hx3, hx4, hx5⟩, _⟩ := hx; go_simp; try with_reducible rfl
    refine tkH 3 ?_ hS (fun wx hx => ?_) ?_; rotate_left
    · obtain ⟨⟨hx0, hx1, hx2, hx3, hx4, hx5⟩, _⟩ := hx; go_simp; try with_reducible rfl
    refine tkH 4 ?_ hS (fun wx hx => ?_) ?_; rotate_left
    · obtain ⟨⟨hx0, hx1, hx2, hx3, hx4, hx5⟩, _⟩ := hx; go_simp; try with_reducible rfl
    refine tkH 5 ?_ hS (fun wx hx => ?_) ?_; rotate_left
    · obtain ⟨⟨hx0, hx1, hx2, hx3, hx4, hx5⟩, _⟩ := hx; go_simp; try with_reducible rfl
    refine tkH 6 ?_ hS (fun wx hx => ?_) ?_; rotate_left
    · obtain ⟨⟨hx0, hx1, hx2, hx3, hx4, hx5⟩, _⟩ := hx; go_simp; try with_reducible rfl
    refine tkH 7 ?_ hS (fun wx hx => ?_) ?_; rotate_left
    · obtain ⟨⟨hx0, hx1, hx2, hx3, hx4, hx5⟩, _⟩ := hx; go_simp; try with_reducible rfl
    refine tkH 8 ?_ hS (fun wx hx => ?_) ?_; rotate_left
    · obtain ⟨⟨hx0, hx1, hx2, hx3, hx4, hx5⟩, _⟩ := hx; go_simp; try with_reducible rfl
    refine tkH 9 ?_ hS (fun wx hx => ?_) ?_; rotate_left
    · obtain ⟨⟨hx0, hx1, hx2, hx3, hx4, hx5⟩, _⟩ := hx; go_simp; try with_reducible rfl
    refine rdH 10 (fun K hK => ?_)
    go_simp
    go_wp2_with fail
    refine (ofE_is d n HC.out.2.2.2.1 HC.out.2.2.2.2.1 _).mono ?_
    rintro e w9 ⟨rfl, hw9⟩
    obtain rfl := hw9.symm
    go_wp2_with fail
    refine hK.out _ _ hS (fun hS => ?_)
    clear hK K
    refine rdH 11 (fun K hK => ?_)
    go_simp
    go_wp2_with fail
    refine (l13Read_is (kE d n) L y w0 _ 0 (addR [] (kI d)) 0 [] HC.out.1.1 (by omega) S1.out.drew (by omega)).mono ?_
    rintro e w2 ⟨rfl, s2⟩
    have S2 : Hid (StP w0 w2 0 (addR (addR [] (kI d)) (kE d n)) 0 []) := s2
    have hS2 := HC.out.op s2
    rw [HT.out]
    clear s2
    go_wp2_with fail
    refine hK.out _ _ hS2 (fun hS => ?_)
    clear hK K
    refine tkH 12 ?_ hS (fun wx hx => ?_) ?_; rotate_left
    · obtain ⟨⟨hx0, hx1, hx2, hx3, hx4, hx5⟩, _⟩ := hx; go_simp; try with_reducible rfl
    refine tkH 13 ?_ hS (fun wx hx => ?_) ?_; rotate_left
    · obtain ⟨⟨hx0, hx1, hx2, hx3, hx4, hx5⟩, _⟩ := hx; go_simp; try with_reducible rfl
    refine tkH 14 ?_ hS (fun wx hx => ?_) ?_; rotate_left
    · obtain ⟨⟨hx0, hx1, hx2, hx3, hx4, hx5⟩, _⟩ := hx; go_simp; try with_reducible rfl
    refine tkH 15 ?_ hS (fun wx hx => ?_) ?_; rotate_left
    · obtain ⟨⟨hx0, hx1, hx2, hx3, hx4, hx5⟩, _⟩ := hx; go_simp; try with_reducible rfl
    refine tkH 16 ?_ hS (fun wx hx => ?_) ?_; rotate_left
    · obtain ⟨⟨hx0, hx1, hx2, hx3, hx4, hx5⟩, _⟩ := hx; go_simp; try with_reducible rfl
    refine wpAnyH_done (by kernel_rfl) ?_ _
    go_simp
    obtain ⟨⟨o0, o1, o2, o3, o4, o5⟩, _⟩ := hS
    go_wp2_with fail
    refine (l13Child_is L y bo oo kd d n td tn vv w0 _ tz _ HC.out S2.out (by omega) HTZ.out HK.out r v ys m W HP.out).mono ?_
    rintro e w3 ⟨rfl, s3⟩
    have S3 : Hid (StP w0 w3 v ys m W) := s3
    clear s3
    go_wp2
    go_ret
    exact ⟨rfl, S3.out⟩
  | false =>
    simp only [Bool.false_eq_true, if_false, Prod.mk.injEq] at hp
    obtain ⟨rfl, rfl, rfl, rfl, rfl⟩ := hp
    clear hkd
    go_enter Tryz.func85, Tryz.ntmps85
    go_wp2_with fail
    refine (ofI_is d HC.out.2.2.2.1 _).mono ?_
    rintro e w9 ⟨rfl, hw9⟩
    obtain rfl := hw9.symm
    go_wp2_with fail
    refine (l13Read_is (kI d) L y w0 _ 0 [] 0 [] HC.out.1.1 (by omega) HS.out (by simp)).mono ?_
    rintro e w1 ⟨rfl, s1⟩
    have S1 : Hid (StP w0 w1 0 (addR [] (kI d)) 0 []) := s1
    rw [HL.out]
    clear s1 o0 o1 o2 o3 o4 o5
    go_upto_region 4 with fail
    refine wp_region_held_drew (S := fun X => opBO X bo oo kd d n td tn vv) (by kernel_rfl) (HC.out.op S1.out.drew) (fun hS => ?_)
    refine tkH 0 ?_ hS (fun wx hx => ?_) ?_; rotate_left
    · obtain ⟨⟨hx0, hx1, hx2, hx3, hx4, hx5⟩, _⟩ := hx; go_simp; try with_reducible rfl
    refine tkH 1 ?_ hS (fun wx hx => ?_) ?_; rotate_left
    · obtain ⟨⟨hx0, hx1, hx2, hx3, hx4, hx5⟩, _⟩ := hx; go_simp; try with_reducible rfl
    refine tkH 2 ?_ hS (fun wx hx => ?_) ?_; rotate_left
    · obtain ⟨⟨hx0, hx1, hx2, hx3, hx4, hx5⟩, _⟩ := hx; go_simp; try with_reducible rfl
    refine tkH 3 ?_ hS (fun wx hx => ?_) ?_; rotate_left
    · obtain ⟨⟨hx0, hx1, hx2, hx3, hx4, hx5⟩, _⟩ := hx; go_simp; try with_reducible rfl
    refine tkH 4 ?_ hS (fun wx hx => ?_) ?_; rotate_left
    · obtain ⟨⟨hx0, hx1, hx2, hx3, hx4, hx5⟩, _⟩ := hx; go_simp; try with_reducible rfl
    refine tkH 5 ?_ hS (fun wx hx => ?_) ?_; rotate_left
    · obtain ⟨⟨hx0, hx1, hx2, hx3, hx4, hx5⟩, _⟩ := hx; go_simp; try with_reducible rfl
    refine tkH 6 ?_ hS (fun wx hx => ?_) ?_; rotate_left
    · obtain ⟨⟨hx0, hx1, hx2, hx3, hx4, hx5⟩, _⟩ := hx; go_simp; try with_reducible rfl
    refine tkH 7 ?_ hS (fun wx hx => ?_) ?_; rotate_left
    · obtain ⟨⟨hx0, hx1, hx2, hx3, hx4, hx5⟩, _⟩ := hx; go_simp; try with_reducible rfl
    refine tkH 8 ?_ hS (fun wx hx => ?_) ?_; rotate_left
    · obtain ⟨⟨hx0, hx1, hx2, hx3, hx4, hx5⟩, _⟩ := hx; go_simp; try with_reducible rfl
    refine tkH 9 ?_ hS (fun wx hx => ?_) ?_; rotate_left
    · obtain ⟨⟨hx0, hx1, hx2, hx3, hx4, hx5⟩, _⟩ := hx; go_simp; try with_reducible rfl
    refine rdH 10 (fun K hK => ?_)
    go_simp
    go_wp2_with fail
    refine (ofE_is d n HC.out.2.2.2.1 HC.out.2.2.2.2.1 _).mono ?_
    rintro e w9 ⟨rfl, hw9⟩
    obtain rfl := hw9.symm
    go_wp2_with fail
    refine hK.out _ _ hS (fun hS => ?_)
    clear hK K
    refine rdH 11 (fun K hK => ?_)
    go_simp
    go_wp2_with fail
    refine (l13Read_is (kE d n) L y w0 _ 0 (addR [] (kI d)) 0 [] HC.out.1.1 (by omega) S1.out.drew (by omega)).mono ?_
    rintro e w2 ⟨rfl, s2⟩
    have S2 : Hid (StP w0 w2 0 (addR (addR [] (kI d)) (kE d n)) 0 []) := s2
    have hS2 := HC.out.op s2
    rw [HT.out]
    clear s2
    go_wp2_with fail
    refine hK.out _ _ hS2 (fun hS => ?_)
    clear hK K
    refine tkH 12 ?_ hS (fun wx hx => ?_) ?_; rotate_left
    · obtain ⟨⟨hx0, hx1, hx2, hx3, hx4, hx5⟩, _⟩ := hx; go_simp; try with_reducible rfl
    refine tkH 13 ?_ hS (fun wx hx => ?_) ?_; rotate_left
    · obtain ⟨⟨hx0, hx1, hx2, hx3, hx4, hx5⟩, _⟩ := hx; go_simp; try with_reducible rfl
    refine tkH 14 ?_ hS (fun wx hx => ?_) ?_; rotate_left
    · obtain ⟨⟨hx0, hx1, hx2, hx3, hx4, hx5⟩, _⟩ := hx; go_simp; try with_reducible rfl
    refine tkH 15 ?_ hS (fun wx hx => ?_) ?_; rotate_left
    · obtain ⟨⟨hx0, hx1, hx2, hx3, hx4, hx5⟩, _⟩ := hx; go_simp; try with_reducible rfl
    refine tkH 16 ?_ hS (fun wx hx => ?_) ?_; rotate_left
    · obtain ⟨⟨hx0, hx1, hx2, hx3, hx4, hx5⟩, _⟩ := hx; go_simp; try with_reducible rfl
    refine wpAnyH_done (by kernel_rfl) ?_ _
    go_simp
    obtain ⟨⟨o0, o1, o2, o3, o4, o5⟩, _⟩ := hS
    go_wp2
    go_ret
    exact ⟨rfl, S2.out⟩
end Go.Proofs.YtnchaccgenfhoaaGreat

namespace Go.Proofs.YtnchaccgenfhoaaGreat
open Go.RowKit

theorem PlanAt.keptP {w w' : World} {B : Nat} {xs : List Int} {m : Nat} {L : List Int} {vr vw : Value} (h : PlanAt w B xs m L vr vw) (hb : ∀ k, B ≤ k → k < w.heap.size → w'.heap[k]? = w.heap[k]?) : PlanAt w' B xs m L vr vw := by
  have hi : OwnM w B 2 1 vr xs.length xs := h.1
  exact ⟨OwnM.keptB hi (fun k hk => hb k (OwnM.block hi k hk).1 (OwnM.block hi k hk).2), OwnM.keptB h.2.1 (fun k hk => hb k (OwnM.block h.2.1 k hk).1 (OwnM.block h.2.1 k hk).2), h.2.2⟩
abbrev zeroPl : Obj := .cells #[.int .i64 0, .int .i64 0, .int .i64 0, .slice none 0 0, .slice none 0 0] 81
set_option maxRecDepth 100000 in
set_option maxHeartbeats 4000000 in
theorem l13Compile_is (L : Prs) (y : Value) (bo oo : Nat) (kd d n td tn vv : Int) (w : World) (hc : Ctx w L y bo oo kd d n td tn vv) (hkd : 1 ≤ kd ∧ kd ≤ 8) (r v : Int) (ys : List Int) (m : Nat) (W : List Int) (hp : replyP L kd d n td tn vv = (r, v, ys, m, W)) :
    Calls Tryz.prog 60 #[y, .pointer (some ⟨bo, oo, none⟩)] w (ResPlan w 0 r v ys m W) := by
  have hc0 : Ctx (w.alloc zeroPl) L y bo oo kd d n td tn vv := ⟨⟨hc.1.1.alloc _, hc.1.2⟩, hc.2.1.alloc _, hc.2.2⟩
  have hs : StP (w.alloc zeroPl) ((w.alloc zeroPl).alloc zeroPl) 0 [] 0 [] := ⟨below_alloc _ _, .slice none 0 0, .slice none 0 0, BlkP.new _ _ _ _ _ _ _, Ints.nil _ _, OwnM.nil _ _ _ _, fun k hk => by cases hk⟩
  have hcall := l13Reply_is L y bo oo kd d n td tn vv (w.alloc zeroPl) _ hc0 hs hkd r v ys m W hp
  rw [World.size_alloc] at hcall
  have HR : Hid (Calls Tryz.prog 85 #[.pointer (some ⟨w.heap.size + 1, 0, none⟩), y, .pointer (some ⟨bo, oo, none⟩)] ((w.alloc zeroPl).alloc zeroPl) fun e w' => e = .returned (.int .i64 r) ∧ StP (w.alloc zeroPl) w' v ys m W) := hcall
  clear hcall hs hc0 hc hp hkd
  go_enter Tryz.func60, Tryz.ntmps60
  go_wp2_with fail
  refine HR.out.mono ?_
  rintro e w2 ⟨rfl, s2⟩
  obtain ⟨q2, vr, vw, hB, hA⟩ := s2
  rw [World.size_alloc] at hB hA q2
  obtain ⟨⟨a1, a2, rfl⟩, ⟨a3, a4, rfl⟩⟩ := hA.form
  have hPB : PBk w2 w.heap.size := (PBk.new w _ _ _ _ _).kept (q2.block _ (Nat.lt_succ_self _))
  have hlt : w.heap.size + 1 < w2.heap.size := hB.lt
  have H2 : Hid (Below w.heap.size w w2 ∧ PlanAt w2 (w.heap.size + 1 + 1) ys m W (.slice a1 ys.length a2) (.slice a3 m a4)) := ⟨(below_alloc w _).trans (q2.mono (Nat.le_succ _)), hA⟩
  have HP : Hid (PBk (w2.setCell ⟨w.heap.size + 1, 1, none⟩ (.int .i64 r)) w.heap.size) := hPB.kept (Below.heap_setCell w2 ⟨w.heap.size + 1, 1, none⟩ _ _ (by simp))
  obtain ⟨⟨c0, c1, c2, c3, c4⟩, f0, f1, f2, f3, f4⟩ := hB
  clear HR q2 hA hPB
  go_wp2_with (refine wpList_storeP rfl _ _ rfl w.heap.size _ _ _ _ _ rfl rfl HP.out (by kernel_rfl) ?_)
  refine bodyPost_ret (v := .agg #[.int .i64 0, .int .i64 r, .int .i64 v, .slice a1 ys.length a2, .slice a3 m a4]) (results_pl Tryz.results60 _ _ _ _ _ _ _ _ rfl HP.out) rfl ⟨_, _, rfl, ?_, ?_⟩
  · exact PlanAt.up (PlanAt.keptP H2.out.2 (fun k hk _ => (heap_setRow _ _ _ _ (by omega)).trans (Below.heap_setCell w2 ⟨w.heap.size + 1, 1, none⟩ _ k (by simp; omega)))) (by omega)
  · exact below_row (H2.out.1.setCell (by simp) _) (Nat.le_refl _) _
/-- What CompileFs answers. -/
def CompAns (n : Nat) (F : Nat → Int) (kd d nm td tn vv c : Int) (p : PRf) : Prop :=
  (pairsF F n 0 ≠ 0 ∧ c = pairsF F n 0 ∧ p = (0, 0, [], 0, [])) ∨ (pairsF F n 0 = 0 ∧ opF kd d nm td tn vv ≠ 0 ∧ c = opF kd d nm td tn vv ∧ p = (0, 0, [], 0, [])) ∨ (pairsF F n 0 = 0 ∧ opF kd d nm td tn vv = 0 ∧ c = 0 ∧ p = replyP (listOf F n) kd d nm td tn vv)
theorem CompAns.get (n : Nat) (F : Nat → Int) (kd d nm td tn vv : Int) : ∃ c p, CompAns n F kd d nm td tn vv c p := by
  by_cases h : pairsF F n 0 = 0
  · by_cases h2 : opF kd d nm td tn vv = 0
    · exact ⟨0, _, Or.inr (Or.inr ⟨h, h2, rfl, rfl⟩)⟩
    · exact ⟨_, _, Or.inr (Or.inl ⟨h, h2, rfl, rfl⟩)⟩
  · exact ⟨_, _, Or.inl ⟨h, rfl, rfl⟩⟩
theorem op_bounds {kd d n td tn vv : Int} (h : opF kd d n td tn vv = 0) : (1 ≤ kd ∧ kd ≤ 8) ∧ (0 ≤ d ∧ d ≤ 9) ∧ (0 ≤ n ∧ n ≤ 5) ∧ (0 ≤ td ∧ td ≤ 9) ∧ (0 ≤ tn ∧ tn ≤ 5) := by
  unfold opF at h
  cases h1 : suitsB kd td tn vv with
  | false => rw [h1] at h; simp at h
  | true =>
    cases h2 : boundsB d n td tn vv with
    | false => rw [h1, h2] at h; simp at h
    | true =>
      have a := of_decide_eq_true h1
      have b := of_decide_eq_true h2
      exact ⟨a.1, b.1, b.2.2.1, b.2.1, b.2.2.2.1⟩
theorem look_fits {F : Nat → Int} {n : Nat} (h : pairsF F n 0 = 0) (k : Int) : 0 ≤ (lookF (listOf F n) k).2 ∧ (lookF (listOf F n) k).2 ≤ 9999 := by
  unfold lookF
  split
  · rename_i e he
    have hm := List.mem_of_find?_eq_some he
    simp only [listOf, List.mem_map, List.mem_range] at hm
    obtain ⟨i, hi, rfl⟩ := hm
    have := pairsF_all h i hi
    rw [Nat.zero_add] at this
    exact (pairF_zero this).2.1
  · simp
end Go.Proofs.YtnchaccgenfhoaaGreat

namespace Go.Proofs.YtnchaccgenfhoaaGreat
open Go.RowKit

/-- What is raised for a reply. -/
def wrongs (r : Int) : List PanicEntry := [{ v := .iface 146 (.int .i64 r), recovered := false }]
set_option maxHeartbeats 400000 in
theorem wrongIf_no (r : Int) (w : World) : Calls Tryz.prog 112 #[.bool false, .int .i64 r] w fun e w' => e = .returned (.tuple #[]) ∧ w' = w := by
  go_enter Tryz.func112, Tryz.ntmps112
  go_wp2
  go_end0
  exact ⟨rfl, rfl⟩
set_option maxHeartbeats 400000 in
theorem wrongIf_so (r : Int) (w : World) : Calls Tryz.prog 112 #[.bool true, .int .i64 r] w fun e w' => e = .panicked (wrongs r) ∧ w' = w := by
  go_enter Tryz.func112, Tryz.ntmps112
  go_wp2
  exact ⟨rfl, rfl, rfl⟩
/-- How a helper that answers nothing ends: r is 0, or it is raised. -/
def VoidAns (w : World) (b rb mb : Nat) (L : Prs) (vr : Value) (r : Int) (ys : List Int) (e : Ending) (w' : World) : Prop :=
  ((r = 0 ∧ e = .returned (.tuple #[])) ∨ (r ≠ 0 ∧ e = .panicked (wrongs r))) ∧ ∃ vr', Looks w' b rb mb L ys vr' ∧ Keeps w w' b mb vr vr'
set_option maxRecDepth 100000 in
set_option maxHeartbeats 2000000 in
theorem needFree_is (L : Prs) (b rb mb : Nat) (xs : List Int) (vr : Value) (td tn : Int) (w : World) (h : Looks w b rb mb L xs vr) (hrs : Rises L) (hn : L.length ≤ 1000) (hd : 0 ≤ td ∧ td ≤ 9) (ht : 0 ≤ tn ∧ tn ≤ 5) (hx : xs.length ≤ 900) (r : Int) (ys : List Int) (hp : targetP L td tn xs = (r, ys)) :
    Calls Tryz.prog 132 #[.pointer (some ⟨b, 0, none⟩), .int .i64 td, .int .i64 tn] w (VoidAns w b rb mb L vr r ys) := by
  have H : Hid (Rises L ∧ (0 ≤ td ∧ td ≤ 9) ∧ (0 ≤ tn ∧ tn ≤ 5)) := ⟨hrs, hd, ht⟩
  have H0 : Hid (Looks w b rb mb L xs vr ∧ Keeps w w b mb vr vr) := ⟨h, Keeps.below _ _ _ (Below.refl _ _)⟩
  have hlen := addR_len xs (kI td)
  have fs := fun h v w => field_sight0 h v w
  unfold targetP at hp
  clear h hrs hd ht
  cases hdq : dirB L td with
  | false =>
    rw [hdq] at hp
    simp only [Bool.false_eq_true, if_false, Prod.mk.injEq] at hp
    obtain ⟨rfl, rfl⟩ := hp
    have HD : Hid (dirB L td = false) := hdq
    clear hdq
    go_enter Tryz.func132, Tryz.ntmps132
    go_wp2_with fail
    refine (isDir_is L b rb mb xs vr td _ H0.out.1 H.out.1 hn H.out.2.1 (by omega)).mono ?_
    rintro e w1 ⟨rfl, vr1, l1, k1⟩
    have H1 : Hid (Looks w1 b rb mb L (addR xs (kI td)) vr1 ∧ Keeps w w1 b mb vr vr1) := ⟨l1, k1⟩
    clear l1 k1
    rw [HD.out]
    go_wp2_with fail
    refine (wrongIf_so 9 _).mono ?_
    rintro e w9 ⟨rfl, hw9⟩
    obtain rfl := hw9.symm
    exact ⟨rfl, Or.inr ⟨by decide, rfl⟩, vr1, H1.out.1, H1.out.2⟩
  | true =>
    rw [hdq] at hp
    simp only [if_true, Prod.mk.injEq] at hp
    obtain ⟨hr, rfl⟩ := hp
    have HD : Hid (dirB L td = true) := hdq
    obtain ⟨t, htq⟩ : ∃ t, lookF L (kE td tn) = t := ⟨_, rfl⟩
    obtain ⟨th, tz⟩ := t
    have HT : Hid (lookF L (kE td tn) = (th, tz)) := htq
    rw [htq] at hr
    have HR : Hid ((if th = true then (6 : Int) else 0) = r) := hr
    clear hdq htq hr
    go_enter Tryz.func132, Tryz.ntmps132
    go_wp2_with fail
    refine (isDir_is L b rb mb xs vr td _ H0.out.1 H.out.1 hn H.out.2.1 (by omega)).mono ?_
    rintro e w1 ⟨rfl, vr1, l1, k1⟩
    have H1 : Hid (Looks w1 b rb mb L (addR xs (kI td)) vr1 ∧ Keeps w w1 b mb vr vr1) := ⟨l1, k1⟩
    clear l1 k1
    rw [HD.out]
    go_wp2_with fail
    refine (wrongIf_no 9 _).mono ?_
    rintro e w9 ⟨rfl, hw9⟩
    obtain rfl := hw9.symm
    go_wp2_with fail
    refine (entryKey_is td tn H.out.2.1 H.out.2.2 _).mono ?_
    rintro e w2 ⟨rfl, q1⟩
    have H2 : Hid (Looks w2 b rb mb L _ _ ∧ Keeps w w2 b mb vr _) := ⟨H1.out.1.later q1, H1.out.2.trans (Keeps.below _ _ _ q1)⟩
    clear q1
    go_wp2_with fail
    refine (look_is L b rb mb _ vr1 (kE td tn) _ H2.out.1 H.out.1 hn (by have := H.out.2; unfold kE; omega) (by omega)).mono ?_
    rintro e w3 ⟨rfl, vr3, l3, k3⟩
    have H3 : Hid (Looks w3 b rb mb L (addR (addR xs (kI td)) (kE td tn)) vr3 ∧ Keeps w w3 b mb vr vr3) := ⟨l3, H2.out.2.trans k3⟩
    clear l3 k3 H1 H2
    rw [HT.out]
    cases th with
    | true =>
      obtain rfl : (6 : Int) = r := HR.out
      go_wp2_with fail
      refine (wrongIf_so 6 _).mono ?_
      rintro e w9 ⟨rfl, hw9⟩
      obtain rfl := hw9.symm
      exact ⟨rfl, Or.inr ⟨by decide, rfl⟩, vr3, H3.out.1, H3.out.2⟩
    | false =>
      obtain rfl : (0 : Int) = r := HR.out
      go_wp2_with fail
      refine (wrongIf_no 6 _).mono ?_
      rintro e w9 ⟨rfl, hw9⟩
      obtain rfl := hw9.symm
      go_wp2
      go_end0
      exact ⟨Or.inl ⟨rfl, rfl⟩, vr3, H3.out.1, H3.out.2⟩
set_option maxRecDepth 100000 in
set_option maxHeartbeats 2000000 in
theorem needEmpty_is (L : Prs) (b rb mb : Nat) (xs : List Int) (vr : Value) (c : Int) (w : World) (h : Looks w b rb mb L xs vr) (hrs : Rises L) (hn : L.length ≤ 1000) (hc : 0 ≤ c ∧ c ≤ 9) (hx : xs.length ≤ 900) (t : Bool) (ys : List Int) (r : Int) (hp : emptyP L c 6 0 xs = (t, ys)) (hr : (if t = true then (0 : Int) else 1) = r) :
    Calls Tryz.prog 131 #[.pointer (some ⟨b, 0, none⟩), .int .i64 c] w (VoidAns w b rb mb L vr r ys) := by
  have HP : Hid (emptyP L c 6 0 xs = (t, ys) ∧ (if t = true then (0 : Int) else 1) = r) := ⟨hp, hr⟩
  clear hp hr
  have H : Hid (Rises L ∧ (0 ≤ c ∧ c ≤ 9)) := ⟨hrs, hc⟩
  have H0 : Hid (Looks w b rb mb L xs vr ∧ Keeps w w b mb vr vr) := ⟨h, Keeps.below _ _ _ (Below.refl _ _)⟩
  have fs := fun h v w => field_sight0 h v w
  clear h hrs hc
  go_enter Tryz.func131, Tryz.ntmps131
  go_wp2
  go_loopw [5] (fun i wr => ∃ k : Nat, k ≤ 6 ∧ i = .int .i64 k ∧ ∃ zs vz, Hid ((Looks wr b rb mb L zs vz ∧ Keeps w wr b mb vr vz) ∧ emptyP L c 6 0 xs = emptyP L c (6 - k) k zs ∧ zs.length ≤ xs.length + k)) (fun i _ => 6 - (intOf i).toNat)
  case atStart => exact ⟨0, by omega, rfl, xs, vr, H0.out, rfl, by omega⟩
  case round =>
    obtain ⟨k, hk, rfl, zs, vz, HZ⟩ := hrel
    by_cases hlt : k < 6
    · have hzl := HZ.out.2.2
      have H1 : Hid (Looks wr b rb mb L zs vz ∧ Keeps w wr b mb vr vz) := HZ.out.1
      obtain ⟨t, htq⟩ : ∃ t, lookF L (kE c k) = t := ⟨_, rfl⟩
      obtain ⟨th, tz⟩ := t
      have HT : Hid (lookF L (kE c k) = (th, tz)) := htq
      have HE : Hid (emptyP L c (6 - k) k zs = if th = true then (false, addR zs (kE c k)) else emptyP L c (6 - (k + 1)) ((k + 1 : Nat) : Int) (addR zs (kE c k))) := by
        unfold Hid
        rw [show 6 - k = (6 - (k + 1)) + 1 by omega, emptyP, htq]
        simp
      have hza := addR_len zs (kE c k)
      clear htq
      go_wp2_with fail
      refine (entryKey_is c k H.out.2 (by omega) _).mono ?_
      rintro e w2 ⟨rfl, q1⟩
      have H2 : Hid (Looks w2 b rb mb L _ _ ∧ Keeps w w2 b mb vr _) := ⟨H1.out.1.later q1, H1.out.2.trans (Keeps.below _ _ _ q1)⟩
      clear q1
      go_wp2_with fail
      refine (look_is L b rb mb zs vz (kE c k) _ H2.out.1 H.out.1 hn (by have := H.out.2; unfold kE; omega) (by omega)).mono ?_
      rintro e w3 ⟨rfl, vr3, l3, k3⟩
      have H3 : Hid (Looks w3 b rb mb L (addR zs (kE c k)) vr3 ∧ Keeps w w3 b mb vr vr3) := ⟨l3, H2.out.2.trans k3⟩
      clear l3 k3 H1 H2
      rw [HT.out]
      cases th with
      | true =>
        have HEE : Hid (emptyP L c 6 0 xs = (false, addR zs (kE c k))) := HZ.out.2.1.trans HE.out
        go_wp2_with fail
        refine (wrongIf_so 1 _).mono ?_
        rintro e w9 ⟨rfl, hw9⟩
        obtain rfl := hw9.symm
        obtain ⟨hp, hr⟩ := HP.out
        rw [HEE.out] at hp
        simp only [Prod.mk.injEq] at hp
        obtain ⟨rfl, rfl⟩ := hp
        obtain rfl : (1 : Int) = r := hr
        exact ⟨rfl, Or.inr ⟨by decide, rfl⟩, vr3, H3.out.1, H3.out.2⟩
      | false =>
        have HEE : Hid (emptyP L c 6 0 xs = emptyP L c (6 - (k + 1)) ((k + 1 : Nat) : Int) (addR zs (kE c k))) := HZ.out.2.1.trans HE.out
        go_wp2_with fail
        refine (wrongIf_no 1 _).mono ?_
        rintro e w9 ⟨rfl, hw9⟩
        obtain rfl := hw9.symm
        clear HE HT HZ
        go_wp2
        go_roundw
        case rel => exact ⟨k + 1, by omega, by go_num, _, vr3, H3.out, HEE.out, by omega⟩
        case measure => simp [intOf]; omega
    · obtain rfl : k = 6 := by omega
      have HEE : Hid (emptyP L c 6 0 xs = (true, zs)) := HZ.out.2.1
      go_wp2
      go_end0
      obtain ⟨hp, hr⟩ := HP.out
      rw [HEE.out] at hp
      simp only [Prod.mk.injEq] at hp
      obtain ⟨rfl, rfl⟩ := hp
      obtain rfl : (0 : Int) = r := hr
      exact ⟨Or.inl ⟨rfl, rfl⟩, vz, HZ.out.1.1, HZ.out.1.2⟩
theorem run_min9 (a : Int) (w : World) : (Builtin.min_ #[2, 2] 2 #[.int .i64 a, .int .i64 9]).run Tryz.prog w = .ok (.int .i64 (minC a)) w := by
  have e : (if (9 : Int) < a then (9 : Int) else a) = minC a := by unfold minC; split <;> split <;> omega
  rw [← e]
  rfl
set_option maxHeartbeats 400000 in
theorem childDir_is (c cv : Int) (w : World) : Calls Tryz.prog 130 #[.agg #[.int .i64 c, .int .i64 cv]] w fun e w' => e = .returned (.bool (cv == 1000)) ∧ Below w.heap.size w w' := by
  go_enter Tryz.func130, Tryz.ntmps130
  go_wp2
  go_ret
  exact ⟨rfl, below_alloc _ _⟩
set_option maxHeartbeats 400000 in
theorem deleteOf_is (k : Int) (w : World) : Calls Tryz.prog 129 #[.int .i64 k] w fun e w' => e = .returned (.agg #[.int .i64 k, .int .i64 2, .int .i64 0]) ∧ Below w.heap.size w w' := by
  go_enter Tryz.func129, Tryz.ntmps129
  go_wp2
  refine bodyPost_ret (v := .agg #[.int .i64 k, .int .i64 2, .int .i64 0]) (by simp [results, Tryz.results129, go_sem]) rfl ⟨rfl, ?_⟩
  repeat (first | exact Below.refl _ _ | refine Below.setCell ?_ (by first | omega | (simp <;> omega)) _ | refine Below.alloc ?_ (by first | omega | (simp <;> omega)) _)
end Go.Proofs.YtnchaccgenfhoaaGreat

