/-
  Own text, merged of StorH, StorI, StorM, StorN, StorO, StorR, KeysJ, ScnP.
-/
import Derived.Test.YtiikncbohnhcaaaGreatDoorPk8
namespace Go.Proofs.YtiikncbohnhcaaaGreatDoor
open Go.RowKit

/-- 'm[k]'. -/
theorem PM.look0 {w : World} {b n : Nat} {m : Int → Int → Option Int} (h : PM w b n m) {x y : Int} (hx : Wf x) (hy : Wf y) :
    (Instr.lookup 112 (.map (some b)) (.agg #[.int .i64 x, .int .i64 y]) false).run Tryz.prog w = .ok (.int .i64 ((m x y).getD 0)) w := by
  obtain ⟨D, h, r⟩ := h
  obtain ⟨c, hrun, hat, _⟩ := h.lookup_int placeKeyed Tryz.underlying112 Tryz.underlying2 (zero_i64 w) (keyOf_place hx hy)
  rw [hrun]
  rw [(r x y hx hy).2] at hat
  simp at hat
  rw [hat]
def GetEnv (w : World) (b oo g N : Nat) (m : Int → Int → Option Int) (L : Nat) (st : Int) (x : World) : Prop := x.cell? ⟨b, oo, none⟩ = some (.map (some g)) ∧ x.cell? ⟨L, 2, none⟩ = some (.int .i64 st) ∧ PM x g N m ∧ Below w.heap.size w x
set_option maxRecDepth 100000 in
set_option maxHeartbeats 4000000 in
theorem get_blockedO (B b oo N : Nat) (m : Int → Int → Option Int) (nl : Nat) (l : Nat → Int) (nw : Nat) (k : Nat → Int) (g : Nat) (u1 u2 : Value) (key ts : Int) (w : World) (h : ColsO w B b oo N m nl l nw k g u1 u2) (hn : nl ≤ 200) (hb : blocks l nl key ts) :
    Calls Tryz.prog 61 #[.pointer (some ⟨b, oo, none⟩), .int .i64 key, .int .i64 ts] w fun e w' => e = .returned (.tuple #[.int .i64 0, .bool false, .iface 136 (.agg #[.int .i64 1])]) ∧ Below w.heap.size w w' := by
  have H : Hid (ColsO w B b oo N m nl l nw k g u1 u2) := h
  have HB : Hid (true = true ↔ blocks l nl key ts) := ⟨fun _ => hb, fun _ => rfl⟩
  have HB2 : Hid (blocks l nl key ts) := hb
  clear h hb HB
  go_enter Tryz.func61, Tryz.ntmps61
  go_wp2_with fail
  refine (blocked_isO B b oo N m nl l nw k g u1 u2 key ts _ H.out hn true ⟨fun _ => HB2.out, fun _ => rfl⟩).mono ?_
  rintro e w1 ⟨rfl, q1⟩
  have Q : Hid (Below w.heap.size w w1) := q1
  clear q1
  go_wp2
  go_ret3
  exact ⟨rfl, Q.out⟩
theorem get_blocked (B b N : Nat) (m : Int → Int → Option Int) (nl : Nat) (l : Nat → Int) (nw : Nat) (k : Nat → Int) (g : Nat) (u1 u2 : Value) (key ts : Int) (w : World) (h : Cols w B b N m nl l nw k g u1 u2) (hn : nl ≤ 200) (hb : blocks l nl key ts) :
    Calls Tryz.prog 61 #[.pointer (some ⟨b, 0, none⟩), .int .i64 key, .int .i64 ts] w fun e w' => e = .returned (.tuple #[.int .i64 0, .bool false, .iface 136 (.agg #[.int .i64 1])]) ∧ Below w.heap.size w w' := get_blockedO B b 0 N m nl l nw k g u1 u2 key ts w h hn hb
set_option maxRecDepth 100000 in
set_option maxHeartbeats 4000000 in
theorem get_noneO (B b oo N : Nat) (m : Int → Int → Option Int) (nl : Nat) (l : Nat → Int) (nw : Nat) (k : Nat → Int) (g : Nat) (u1 u2 : Value) (key ts : Int) (w : World) (h : ColsO w B b oo N m nl l nw k g u1 u2) (hn : nl ≤ 200) (hn2 : nw ≤ 200) (hk : ∀ i, i < nw → 1 ≤ k (i * 4 + 3)) (hb : ¬ blocks l nl key ts) (hl : ∀ i, lastW k nw key ts i → k (i * 4 + 3) ≠ 1) :
    Calls Tryz.prog 61 #[.pointer (some ⟨b, oo, none⟩), .int .i64 key, .int .i64 ts] w fun e w' => e = .returned (.tuple #[.int .i64 0, .bool false, .nilIface]) ∧ Below w.heap.size w w' := by
  have H : Hid (ColsO w B b oo N m nl l nw k g u1 u2) := h
  have HB : Hid (false = true ↔ blocks l nl key ts) := ⟨fun q => absurd q (by decide), fun q => absurd q hb⟩
  have HK : Hid (∀ i, i < nw → 1 ≤ k (i * 4 + 3)) := hk
  have HL : Hid (∀ i, lastW k nw key ts i → k (i * 4 + 3) ≠ 1) := hl
  clear h hb hk hl
  go_enter Tryz.func61, Tryz.ntmps61
  go_wp2_with fail
  refine (blocked_isO B b oo N m nl l nw k g u1 u2 key ts _ H.out hn false HB.out).mono ?_
  rintro e w1 ⟨rfl, q1⟩
  have Q : Hid (Below w.heap.size w w1) := q1
  have H1 : Hid (ColsO w1 B b oo N m nl l nw k g u1 u2) := H.out.later q1
  clear q1 H
  go_wp2_with fail
  refine (lastWrite_anyO B b oo N m nl l nw k g u1 u2 key ts _ H1.out hn2 HK.out).mono ?_
  rintro e w2 ⟨v, rfl, hT, q2⟩
  rcases hT with ⟨i, hi, rfl⟩ | ⟨_, rfl⟩
  · have h3 := HL.out i hi
    obtain ⟨n0, N0⟩ : ∃ x, k (i * 4) = x := ⟨_, rfl⟩
    obtain ⟨n1, N1⟩ : ∃ x, k (i * 4 + 1) = x := ⟨_, rfl⟩
    obtain ⟨n2, N2⟩ : ∃ x, k (i * 4 + 2) = x := ⟨_, rfl⟩
    obtain ⟨n3, N3⟩ : ∃ x, k (i * 4 + 3) = x := ⟨_, rfl⟩
    rw [N0, N1, N2, N3]
    rw [N3] at h3
    have d3 : (n3 == 1) = false := beq_eq_false_iff_ne.2 h3
    have Q2 : Hid (Below w.heap.size w (w2.alloc (.cells #[.int .i64 n0, .int .i64 n1, .int .i64 n2, .int .i64 n3] 55))) := (Q.out.trans (q2.mono Q.out.size)).alloc (by have := Q.out.size; have := q2.size; omega) _
    clear q2 N0 N1 N2 N3 h3 Q
    go_wp2
    go_ret3
    exact ⟨rfl, Q2.out⟩
  · have Q2 : Hid (Below w.heap.size w (w2.alloc (.cells #[.int .i64 0, .int .i64 0, .int .i64 0, .int .i64 0] 55))) := (Q.out.trans (q2.mono Q.out.size)).alloc (by have := Q.out.size; have := q2.size; omega) _
    clear q2 Q
    go_wp2
    go_ret3
    exact ⟨rfl, Q2.out⟩
theorem get_none (B b N : Nat) (m : Int → Int → Option Int) (nl : Nat) (l : Nat → Int) (nw : Nat) (k : Nat → Int) (g : Nat) (u1 u2 : Value) (key ts : Int) (w : World) (h : Cols w B b N m nl l nw k g u1 u2) (hn : nl ≤ 200) (hn2 : nw ≤ 200) (hk : ∀ i, i < nw → 1 ≤ k (i * 4 + 3)) (hb : ¬ blocks l nl key ts) (hl : ∀ i, lastW k nw key ts i → k (i * 4 + 3) ≠ 1) :
    Calls Tryz.prog 61 #[.pointer (some ⟨b, 0, none⟩), .int .i64 key, .int .i64 ts] w fun e w' => e = .returned (.tuple #[.int .i64 0, .bool false, .nilIface]) ∧ Below w.heap.size w w' := get_noneO B b 0 N m nl l nw k g u1 u2 key ts w h hn hn2 hk hb hl
set_option maxRecDepth 100000 in
set_option maxHeartbeats 4000000 in
theorem get_someO (B b oo N : Nat) (m : Int → Int → Option Int) (nl : Nat) (l : Nat → Int) (nw : Nat) (k : Nat → Int) (g : Nat) (u1 u2 : Value) (key ts : Int) (i : Nat) (v : Int) (w : World) (h : ColsO w B b oo N m nl l nw k g u1 u2) (hn : nl ≤ 200) (hn2 : nw ≤ 200) (hk : ∀ i, i < nw → 1 ≤ k (i * 4 + 3)) (hb : ¬ blocks l nl key ts) (hl : lastW k nw key ts i) (h1 : k (i * 4 + 3) = 1) (hw0 : Wf key) (hw1 : Wf (k (i * 4 + 2))) (hm : m key (k (i * 4 + 2)) = some v) :
    Calls Tryz.prog 61 #[.pointer (some ⟨b, oo, none⟩), .int .i64 key, .int .i64 ts] w fun e w' => e = .returned (.tuple #[.int .i64 v, .bool true, .nilIface]) ∧ Below w.heap.size w w' := by
  have H : Hid (ColsO w B b oo N m nl l nw k g u1 u2) := h
  have HB : Hid (false = true ↔ blocks l nl key ts) := ⟨fun q => absurd q (by decide), fun q => absurd q hb⟩
  have HK : Hid (∀ i, i < nw → 1 ≤ k (i * 4 + 3)) := hk
  have HL : Hid (lastW k nw key ts i) := hl
  obtain ⟨n0, N0⟩ : ∃ x, k (i * 4) = x := ⟨_, rfl⟩
  obtain ⟨n1, N1⟩ : ∃ x, k (i * 4 + 1) = x := ⟨_, rfl⟩
  obtain ⟨n2, N2⟩ : ∃ x, k (i * 4 + 2) = x := ⟨_, rfl⟩
  obtain ⟨n3, N3⟩ : ∃ x, k (i * 4 + 3) = x := ⟨_, rfl⟩
  rw [N2] at hm hw1
  rw [N3] at h1
  subst h1
  have NN : Hid (k (i * 4) = n0 ∧ k (i * 4 + 1) = n1 ∧ k (i * 4 + 2) = n2 ∧ k (i * 4 + 3) = 1) := ⟨N0, N1, N2, N3⟩
  have HM : Hid (m key n2 = some v) := hm
  clear h hb hk hl N0 N1 N2 N3 hm
  go_enter Tryz.func61, Tryz.ntmps61
  go_wp2_with fail
  refine (blocked_isO B b oo N m nl l nw k g u1 u2 key ts _ H.out hn false HB.out).mono ?_
  rintro e w1 ⟨rfl, q1⟩
  have Q : Hid (Below w.heap.size w w1) := q1
  have H1 : Hid (ColsO w1 B b oo N m nl l nw k g u1 u2) := H.out.later q1
  clear q1 H
  go_wp2_with fail
  refine (lastWrite_anyO B b oo N m nl l nw k g u1 u2 key ts _ H1.out hn2 HK.out).mono ?_
  rintro e w2 ⟨v', rfl, hT, q2⟩
  obtain rfl : v' = .tuple #[.agg #[.int .i64 n0, .int .i64 n1, .int .i64 n2, .int .i64 1], .bool true] := by
    rcases hT with ⟨j, hj, e⟩ | ⟨h, _⟩
    · obtain rfl := hj.one HL.out
      rw [e, NN.out.1, NN.out.2.1, NN.out.2.2.1, NN.out.2.2.2]
    · exact absurd HL.out (h i)
  have h0 : GetEnv w b oo g N m w2.heap.size n2 (w2.alloc (.cells #[.int .i64 n0, .int .i64 n1, .int .i64 n2, .int .i64 1] 55)).drew := ⟨((H1.out.later q2).2.2.1.alloc _).1.1, World.cell?_alloc_mark w2 _ _ _ 2, ((H1.out.later q2).2.2.2.1.alloc _), ((Q.out.trans (q2.mono Q.out.size)).alloc (by have := Q.out.size; have := q2.size; omega) _).drew⟩
  clear q2 hT Q H1
  go_wp2_with fail
  refine wp_region_held_drew (S := GetEnv w b oo g N m w2.heap.size n2) (by kernel_rfl) h0 (fun hS => ?_)
  clear h0
  refine tkH 0 ?_ hS (fun wx hx => ?_) ?_; rotate_left
  · obtain ⟨hx0, hx1, hx2, _⟩ := hx; have hxl := hx2.look0 hw0 hw1; clear hx2; go_simp; try with_reducible rfl
  refine tkH 1 ?_ hS (fun wx hx => ?_) ?_; rotate_left
  · obtain ⟨hx0, hx1, hx2, _⟩ := hx; have hxl := hx2.look0 hw0 hw1; clear hx2; go_simp; try with_reducible rfl
  refine tkH 2 ?_ hS (fun wx hx => ?_) ?_; rotate_left
  · obtain ⟨hx0, hx1, hx2, _⟩ := hx; have hxl := hx2.look0 hw0 hw1; clear hx2; go_simp; try with_reducible rfl
  refine tkH 3 ?_ hS (fun wx hx => ?_) ?_; rotate_left
  · obtain ⟨hx0, hx1, hx2, _⟩ := hx; have hxl := hx2.look0 hw0 hw1; clear hx2; go_simp; try with_reducible rfl
  refine tkH 4 ?_ hS (fun wx hx => ?_) ?_; rotate_left
  · obtain ⟨hx0, hx1, hx2, _⟩ := hx; have hxl := hx2.look0 hw0 hw1; clear hx2; go_simp; try with_reducible rfl
  refine tkH 5 ?_ hS (fun wx hx => ?_) ?_; rotate_left
  · obtain ⟨hx0, hx1, hx2, _⟩ := hx; have hxl := hx2.look0 hw0 hw1; clear hx2; go_simp; try with_reducible rfl
  refine tkH 6 ?_ hS (fun wx hx => ?_) ?_; rotate_left
  · obtain ⟨hx0, hx1, hx2, _⟩ := hx; have hxl := hx2.look0 hw0 hw1; clear hx2; go_simp; try with_reducible rfl
  refine tkH 7 ?_ hS (fun wx hx => ?_) ?_; rotate_left
  · obtain ⟨hx0, hx1, hx2, _⟩ := hx; have hxl := hx2.look0 hw0 hw1; clear hx2; go_simp; try with_reducible rfl
  refine tkH 8 ?_ hS (fun wx hx => ?_) ?_; rotate_left
  · obtain ⟨hx0, hx1, hx2, _⟩ := hx; have hxl := hx2.look0 hw0 hw1; clear hx2; go_simp; try with_reducible rfl
  refine tkH 9 ?_ hS (fun wx hx => ?_) ?_; rotate_left
  · obtain ⟨hx0, hx1, hx2, _⟩ := hx; have hxl := hx2.look0 hw0 hw1; clear hx2; go_simp; try with_reducible rfl
  refine tkH 10 ?_ hS (fun wx hx => ?_) ?_; rotate_left
  · obtain ⟨hx0, hx1, hx2, _⟩ := hx; have hxl := hx2.look0 hw0 hw1; clear hx2; go_simp; try with_reducible rfl
  refine tkH 11 ?_ hS (fun wx hx => ?_) ?_; rotate_left
  · obtain ⟨hx0, hx1, hx2, _⟩ := hx; have hxl := hx2.look0 hw0 hw1; clear hx2; go_simp; try with_reducible rfl
  refine wpAnyH_done (by kernel_rfl) ?_ _
  rw [HM.out]
  go_simp
  go_wp2
  go_ret3
  exact ⟨rfl, hS.2.2.2⟩
theorem get_some (B b N : Nat) (m : Int → Int → Option Int) (nl : Nat) (l : Nat → Int) (nw : Nat) (k : Nat → Int) (g : Nat) (u1 u2 : Value) (key ts : Int) (i : Nat) (v : Int) (w : World) (h : Cols w B b N m nl l nw k g u1 u2) (hn : nl ≤ 200) (hn2 : nw ≤ 200) (hk : ∀ i, i < nw → 1 ≤ k (i * 4 + 3)) (hb : ¬ blocks l nl key ts) (hl : lastW k nw key ts i) (h1 : k (i * 4 + 3) = 1) (hw0 : Wf key) (hw1 : Wf (k (i * 4 + 2))) (hm : m key (k (i * 4 + 2)) = some v) :
    Calls Tryz.prog 61 #[.pointer (some ⟨b, 0, none⟩), .int .i64 key, .int .i64 ts] w fun e w' => e = .returned (.tuple #[.int .i64 v, .bool true, .nilIface]) ∧ Below w.heap.size w w' := get_someO B b 0 N m nl l nw k g u1 u2 key ts i v w h hn hn2 hk hb hl h1 hw0 hw1 hm
end Go.Proofs.YtiikncbohnhcaaaGreatDoor

namespace Go.Proofs.YtiikncbohnhcaaaGreatDoor
open Go.RowKit

def isTs (ts : Int) : Prop := 1 ≤ ts ∧ ts ≤ 100000
/-- The last put or delete of key up to ts is a put; its cell is cell j. -/
def reads (S : Sto) (key ts : Int) (i j : Nat) : Prop := lastW S.k S.nw key ts i ∧ S.k (i * 4 + 3) = 1 ∧ j < S.nc ∧ cellIs S.c key (S.k (i * 4 + 2)) j
/-- What GetAt answers. -/
def GetAns (S : Sto) (key ts c : Int) (has : Bool) (v : Int) : Prop :=
  (askF S key ≠ 0 ∧ c = askF S key ∧ has = false ∧ v = 0) ∨ (askF S key = 0 ∧ ¬ isTs ts ∧ c = 3 ∧ has = false ∧ v = 0) ∨
  (askF S key = 0 ∧ isTs ts ∧ blocks S.l S.nl key ts ∧ c = 7 ∧ has = false ∧ v = 0) ∨
  (askF S key = 0 ∧ isTs ts ∧ ¬ blocks S.l S.nl key ts ∧ (∀ i, lastW S.k S.nw key ts i → S.k (i * 4 + 3) ≠ 1) ∧ c = 0 ∧ has = false ∧ v = 0) ∨
  (askF S key = 0 ∧ isTs ts ∧ ¬ blocks S.l S.nl key ts ∧ ∃ i j, reads S key ts i j ∧ c = 0 ∧ has = true ∧ v = S.c (j * 3 + 2))
theorem GetAns.get (S : Sto) (key ts : Int) : ∃ c has v, GetAns S key ts c has v := by
  by_cases hz : askF S key = 0
  case neg => exact ⟨_, _, _, Or.inl ⟨hz, rfl, rfl, rfl⟩⟩
  by_cases ht : isTs ts
  case neg => exact ⟨_, _, _, Or.inr (Or.inl ⟨hz, ht, rfl, rfl, rfl⟩)⟩
  by_cases hb : blocks S.l S.nl key ts
  · exact ⟨_, _, _, Or.inr (Or.inr (Or.inl ⟨hz, ht, hb, rfl, rfl, rfl⟩))⟩
  by_cases hl : ∀ i, lastW S.k S.nw key ts i → S.k (i * 4 + 3) ≠ 1
  · exact ⟨_, _, _, Or.inr (Or.inr (Or.inr (Or.inl ⟨hz, ht, hb, hl, rfl, rfl, rfl⟩)))⟩
  have he : ∃ i, lastW S.k S.nw key ts i ∧ S.k (i * 4 + 3) = 1 := Classical.byContradiction fun q => hl (fun i hi e => q ⟨i, hi, e⟩)
  obtain ⟨i, hi, h1⟩ := he
  obtain ⟨j, hj, hc⟩ := (storeF_zero (askF_zero hz).1).2.2.2.2.1.1 i hi.1 h1
  rw [hi.2.1.1] at hc
  exact ⟨_, _, _, Or.inr (Or.inr (Or.inr (Or.inr ⟨hz, ht, hb, i, j, ⟨hi, h1, hj, hc⟩, rfl, rfl, rfl⟩)))⟩
def GetCall (w : World) (B : Nat) (S : Sto) (v0 v1 v2 r0 r1 r2 : Value) (x : World) : Prop := Blk3 x w.heap.size v0 v1 v2 ∧ Blk3 x (w.heap.size + 1) r0 r1 r2 ∧ St x B S v0 v1 v2 ∧ Below w.heap.size w x
theorem GetCall.later {w x x' : World} {B : Nat} {S : Sto} {v0 v1 v2 r0 r1 r2 : Value} (h : GetCall w B S v0 v1 v2 r0 r1 r2 x) (hb : Below x.heap.size x x') : GetCall w B S v0 v1 v2 r0 r1 r2 x' :=
  ⟨h.1.later hb, h.2.1.later hb, h.2.2.1.later hb, h.2.2.2.trans (hb.mono h.2.2.2.size)⟩
theorem GetCall.new {w : World} {B : Nat} {S : Sto} {v0 v1 v2 : Value} (h : St w B S v0 v1 v2) (r0 r1 r2 : Value) (t t' : TypeId) : GetCall w B S v0 v1 v2 r0 r1 r2 ((w.alloc (.cells #[v0, v1, v2] t)).alloc (.cells #[r0, r1, r2] t')) := by
  refine ⟨(Blk3.new w _ _ _ _).alloc _, ?_, (h.alloc _).alloc _, (below_alloc _ _).alloc (by simp) _⟩
  have := Blk3.new (w.alloc (.cells #[v0, v1, v2] t)) r0 r1 r2 t'
  rwa [World.size_alloc] at this
set_option maxRecDepth 100000 in
set_option maxHeartbeats 4000000 in
theorem implGetAt_is (S : Sto) (v0 v1 v2 : Value) (key ts c : Int) (has : Bool) (v : Int) (B : Nat) (w : World) (h : St w B S v0 v1 v2) (hL : Laid w) (hA : GetAns S key ts c has v) :
    Calls Tryz.prog 15 #[.agg #[v0, v1, v2], .int .i64 key, .int .i64 ts] w fun e w' => e = .returned (.agg #[.int .i64 c, .bool has, .int .i64 v]) ∧ Below w.heap.size w w' := by
  obtain ⟨a0, c0, a1, c1, a2, c2, rfl, rfl, rfl⟩ := h.form
  have HE : Hid (GetCall w B S (.slice a0 S.nc c0) (.slice a1 S.nl c1) (.slice a2 S.nw c2) (.int .i64 0) (.bool false) (.int .i64 0) ((w.alloc (.cells #[.slice a0 S.nc c0, .slice a1 S.nl c1, .slice a2 S.nw c2] 28)).alloc (.cells #[.int .i64 0, .bool false, .int .i64 0] 45))) := GetCall.new h _ _ _ _ _
  have HL : Hid (Laid w) := hL
  clear h hL
  rcases hA with ⟨hz, rfl, rfl, rfl⟩ | ⟨hz, ht, rfl, rfl, rfl⟩ | ⟨hz, ht, hb, rfl, rfl, rfl⟩ | ⟨hz, ht, hb, hl, rfl, rfl, rfl⟩ | ⟨hz, ht, hb, i, j, hr, rfl, rfl, rfl⟩
  · obtain ⟨f, hf⟩ : ∃ f, askF S key = f := ⟨_, rfl⟩
    have HF : Hid (askF S key = f) := hf
    have hfn : (f == 0) = false := beq_eq_false_iff_ne.2 (by rw [← hf]; exact hz)
    rw [hf]
    clear hz hf
    go_enter Tryz.func15, Tryz.ntmps15
    go_wp2_with fail
    refine (askFault_any S _ _ _ key B _ HE.out.2.2.1).mono ?_
    rw [HF.out]
    rintro e w1 ⟨rfl, q1⟩
    have HE : Hid (GetCall w B S (.slice a0 S.nc c0) (.slice a1 S.nl c1) (.slice a2 S.nw c2) (.int .i64 0) (.bool false) (.int .i64 0) w1) := HE.out.later q1
    obtain ⟨⟨⟨p0, p1, p2⟩, _⟩, ⟨⟨r0, r1, r2⟩, f0, f1, f2⟩, _⟩ := HE.out
    clear q1
    go_wp2
    exact bodyPost_ret (v := .agg #[.int .i64 f, .bool false, .int .i64 0]) (by simp [results, Tryz.results15, go_sem, r0, r1, r2]) rfl ⟨rfl, ((HE.out.2.2.2.setCell (Nat.le_succ _) _).setCell (Nat.le_succ _) _).setCell (Nat.le_succ _) _⟩
  · have HA : Hid (askF S key = 0) := hz
    have HT : Hid (decide (1 ≤ ts ∧ ts ≤ 100000) = false) := decide_eq_false ht
    clear hz ht
    go_enter Tryz.func15, Tryz.ntmps15
    go_wp2_with fail
    refine (askFault_any S _ _ _ key B _ HE.out.2.2.1).mono ?_
    rw [HA.out]
    rintro e w1 ⟨rfl, q1⟩
    have HE : Hid (GetCall w B S (.slice a0 S.nc c0) (.slice a1 S.nl c1) (.slice a2 S.nw c2) (.int .i64 0) (.bool false) (.int .i64 0) w1) := HE.out.later q1
    obtain ⟨⟨⟨p0, p1, p2⟩, _⟩, ⟨⟨r0, r1, r2⟩, f0, f1, f2⟩, _⟩ := HE.out
    clear q1
    go_wp2_with fail
    refine (isTime_is _ false HT.out _).mono ?_
    rintro e w1' ⟨rfl, rfl⟩
    go_wp2
    exact bodyPost_ret (v := .agg #[.int .i64 3, .bool false, .int .i64 0]) (by simp [results, Tryz.results15, go_sem, r0, r1, r2]) rfl ⟨rfl, ((HE.out.2.2.2.setCell (Nat.le_succ _) _).setCell (Nat.le_succ _) _).setCell (Nat.le_succ _) _⟩
  · have Z := storeF_zero (askF_zero hz).1
    have HZ : Hid (scan (cellF S.c) S.nc = 0 ∧ (S.nc ≤ 200 ∧ S.nl ≤ 200 ∧ S.nw ≤ 200)) := ⟨Z.2.1, Z.1⟩
    have HK : Hid (∀ i, i < S.nw → 1 ≤ S.k (i * 4 + 3)) := fun i hi => (writeF_zero (scan_zero Z.2.2.2.1 i hi)).2.2.2.2.2.1
    have HA : Hid (askF S key = 0) := hz
    have HT : Hid (decide (1 ≤ ts ∧ ts ≤ 100000) = true) := decide_eq_true ht
    have HB : Hid (blocks S.l S.nl key ts) := hb
    clear hz ht hb Z
    go_enter Tryz.func15, Tryz.ntmps15
    go_wp2_with fail
    refine (askFault_any S _ _ _ key B _ HE.out.2.2.1).mono ?_
    rw [HA.out]
    rintro e w1 ⟨rfl, q1⟩
    have HE : Hid (GetCall w B S (.slice a0 S.nc c0) (.slice a1 S.nl c1) (.slice a2 S.nw c2) (.int .i64 0) (.bool false) (.int .i64 0) w1) := HE.out.later q1
    obtain ⟨⟨⟨p0, p1, p2⟩, _⟩, ⟨⟨r0, r1, r2⟩, f0, f1, f2⟩, _⟩ := HE.out
    clear q1
    go_wp2_with fail
    refine (isTime_is _ true HT.out _).mono ?_
    rintro e w1' ⟨rfl, rfl⟩
    go_wp2_with fail
    refine (columnsOf_any S B _ _ _ _ HE.out.2.2.1 HZ.out.2.1 HZ.out.2.2.1 HZ.out.2.2.2 HZ.out.1).mono ?_
    rintro e w2 ⟨b, g, u1, u2, rfl, HC, q1⟩
    clear p0 p1 p2 r0 r1 r2 f0 f1 f2
    have HE : Hid (GetCall w B S (.slice a0 S.nc c0) (.slice a1 S.nl c1) (.slice a2 S.nw c2) (.int .i64 0) (.bool false) (.int .i64 0) w2) := HE.out.later q1
    obtain ⟨⟨⟨p0, p1, p2⟩, _⟩, ⟨⟨r0, r1, r2⟩, f0, f1, f2⟩, _⟩ := HE.out
    clear q1
    go_wp2_with fail
    refine (get_blocked _ b _ _ S.nl S.l _ _ g u1 u2 key ts _ HC HZ.out.2.2.1 HB.out).mono ?_
    rintro e w3 ⟨rfl, q1⟩
    clear p0 p1 p2 r0 r1 r2 f0 f1 f2
    have HE : Hid (GetCall w B S (.slice a0 S.nc c0) (.slice a1 S.nl c1) (.slice a2 S.nw c2) (.int .i64 0) (.bool false) (.int .i64 0) w3) := HE.out.later q1
    obtain ⟨⟨⟨p0, p1, p2⟩, _⟩, ⟨⟨r0, r1, r2⟩, f0, f1, f2⟩, _⟩ := HE.out
    clear q1
    clear HC
    go_wp2_with fail
    refine (refusalCode_hit 1 7 (Or.inr (Or.inl ⟨rfl, rfl⟩)) _ (HL.out.later HE.out.2.2.2)).mono ?_
    rintro e w4 ⟨rfl, q1⟩
    clear p0 p1 p2 r0 r1 r2 f0 f1 f2
    have HE : Hid (GetCall w B S (.slice a0 S.nc c0) (.slice a1 S.nl c1) (.slice a2 S.nw c2) (.int .i64 0) (.bool false) (.int .i64 0) w4) := HE.out.later q1
    obtain ⟨⟨⟨p0, p1, p2⟩, _⟩, ⟨⟨r0, r1, r2⟩, f0, f1, f2⟩, _⟩ := HE.out
    clear q1
    go_wp2
    exact bodyPost_ret (v := .agg #[.int .i64 7, .bool false, .int .i64 0]) (by simp [results, Tryz.results15, go_sem, r0, r1, r2]) rfl ⟨rfl, ((HE.out.2.2.2.setCell (Nat.le_succ _) _).setCell (Nat.le_succ _) _).setCell (Nat.le_succ _) _⟩
  · have Z := storeF_zero (askF_zero hz).1
    have HZ : Hid (scan (cellF S.c) S.nc = 0 ∧ (S.nc ≤ 200 ∧ S.nl ≤ 200 ∧ S.nw ≤ 200)) := ⟨Z.2.1, Z.1⟩
    have HK : Hid (∀ i, i < S.nw → 1 ≤ S.k (i * 4 + 3)) := fun i hi => (writeF_zero (scan_zero Z.2.2.2.1 i hi)).2.2.2.2.2.1
    have HA : Hid (askF S key = 0) := hz
    have HT : Hid (decide (1 ≤ ts ∧ ts ≤ 100000) = true) := decide_eq_true ht
    have HB : Hid (¬ blocks S.l S.nl key ts ∧ ∀ i, lastW S.k S.nw key ts i → S.k (i * 4 + 3) ≠ 1) := ⟨hb, hl⟩
    clear hz ht hb hl Z
    go_enter Tryz.func15, Tryz.ntmps15
    go_wp2_with fail
    refine (askFault_any S _ _ _ key B _ HE.out.2.2.1).mono ?_
    rw [HA.out]
    rintro e w1 ⟨rfl, q1⟩
    have HE : Hid (GetCall w B S (.slice a0 S.nc c0) (.slice a1 S.nl c1) (.slice a2 S.nw c2) (.int .i64 0) (.bool false) (.int .i64 0) w1) := HE.out.later q1
    obtain ⟨⟨⟨p0, p1, p2⟩, _⟩, ⟨⟨r0, r1, r2⟩, f0, f1, f2⟩, _⟩ := HE.out
    clear q1
    go_wp2_with fail
    refine (isTime_is _ true HT.out _).mono ?_
    rintro e w1' ⟨rfl, rfl⟩
    go_wp2_with fail
    refine (columnsOf_any S B _ _ _ _ HE.out.2.2.1 HZ.out.2.1 HZ.out.2.2.1 HZ.out.2.2.2 HZ.out.1).mono ?_
    rintro e w2 ⟨b, g, u1, u2, rfl, HC, q1⟩
    clear p0 p1 p2 r0 r1 r2 f0 f1 f2
    have HE : Hid (GetCall w B S (.slice a0 S.nc c0) (.slice a1 S.nl c1) (.slice a2 S.nw c2) (.int .i64 0) (.bool false) (.int .i64 0) w2) := HE.out.later q1
    obtain ⟨⟨⟨p0, p1, p2⟩, _⟩, ⟨⟨r0, r1, r2⟩, f0, f1, f2⟩, _⟩ := HE.out
    clear q1
    go_wp2_with fail
    refine (get_none _ b _ _ S.nl S.l S.nw S.k g u1 u2 key ts _ HC HZ.out.2.2.1 HZ.out.2.2.2 HK.out HB.out.1 HB.out.2).mono ?_
    rintro e w3 ⟨rfl, q1⟩
    clear p0 p1 p2 r0 r1 r2 f0 f1 f2
    have HE : Hid (GetCall w B S (.slice a0 S.nc c0) (.slice a1 S.nl c1) (.slice a2 S.nw c2) (.int .i64 0) (.bool false) (.int .i64 0) w3) := HE.out.later q1
    obtain ⟨⟨⟨p0, p1, p2⟩, _⟩, ⟨⟨r0, r1, r2⟩, f0, f1, f2⟩, _⟩ := HE.out
    clear q1
    clear HC
    go_wp2_with fail
    refine (refusalCode_nil _).mono ?_
    rintro e w4 ⟨rfl, q1⟩
    clear p0 p1 p2 r0 r1 r2 f0 f1 f2
    have HE : Hid (GetCall w B S (.slice a0 S.nc c0) (.slice a1 S.nl c1) (.slice a2 S.nw c2) (.int .i64 0) (.bool false) (.int .i64 0) w4) := HE.out.later q1
    obtain ⟨⟨⟨p0, p1, p2⟩, _⟩, ⟨⟨r0, r1, r2⟩, f0, f1, f2⟩, _⟩ := HE.out
    clear q1
    go_wp2
    exact bodyPost_ret (v := .agg #[.int .i64 0, .bool false, .int .i64 0]) (by simp [results, Tryz.results15, go_sem, r0, r1, r2]) rfl ⟨rfl, ((HE.out.2.2.2.setCell (Nat.le_succ _) _).setCell (Nat.le_succ _) _).setCell (Nat.le_succ _) _⟩
  · have Z := storeF_zero (askF_zero hz).1
    have HZ : Hid (scan (cellF S.c) S.nc = 0 ∧ (S.nc ≤ 200 ∧ S.nl ≤ 200 ∧ S.nw ≤ 200)) := ⟨Z.2.1, Z.1⟩
    have HK : Hid (∀ i, i < S.nw → 1 ≤ S.k (i * 4 + 3)) := fun i hi => (writeF_zero (scan_zero Z.2.2.2.1 i hi)).2.2.2.2.2.1
    have HA : Hid (askF S key = 0) := hz
    have hw0 : Wf key := wf_small (faultOf_zero (askF_zero hz).2).1 (by have := (faultOf_zero (askF_zero hz).2).2; omega)
    have hw1 : Wf (S.k (i * 4 + 2)) := by have := writeF_zero (scan_zero Z.2.2.2.1 i hr.1.1); exact wf_small (by omega) (by omega)
    have HT : Hid (decide (1 ≤ ts ∧ ts ≤ 100000) = true) := decide_eq_true ht
    have HB : Hid (¬ blocks S.l S.nl key ts) := hb
    have HR : Hid (lastW S.k S.nw key ts i ∧ S.k (i * 4 + 3) = 1) := ⟨hr.1, hr.2.1⟩
    have hm := cellM_at Z.2.1 hr.2.2.1 hr.2.2.2
    obtain ⟨v, hv⟩ : ∃ v, S.c (j * 3 + 2) = v := ⟨_, rfl⟩
    rw [hv] at hm
    rw [hv]
    have HM : Hid (cellM S S.nc key (S.k (i * 4 + 2)) = some v) := hm
    clear hz ht hb hr Z hm hv
    go_enter Tryz.func15, Tryz.ntmps15
    go_wp2_with fail
    refine (askFault_any S _ _ _ key B _ HE.out.2.2.1).mono ?_
    rw [HA.out]
    rintro e w1 ⟨rfl, q1⟩
    have HE : Hid (GetCall w B S (.slice a0 S.nc c0) (.slice a1 S.nl c1) (.slice a2 S.nw c2) (.int .i64 0) (.bool false) (.int .i64 0) w1) := HE.out.later q1
    obtain ⟨⟨⟨p0, p1, p2⟩, _⟩, ⟨⟨r0, r1, r2⟩, f0, f1, f2⟩, _⟩ := HE.out
    clear q1
    go_wp2_with fail
    refine (isTime_is _ true HT.out _).mono ?_
    rintro e w1' ⟨rfl, rfl⟩
    go_wp2_with fail
    refine (columnsOf_any S B _ _ _ _ HE.out.2.2.1 HZ.out.2.1 HZ.out.2.2.1 HZ.out.2.2.2 HZ.out.1).mono ?_
    rintro e w2 ⟨b, g, u1, u2, rfl, HC, q1⟩
    clear p0 p1 p2 r0 r1 r2 f0 f1 f2
    have HE : Hid (GetCall w B S (.slice a0 S.nc c0) (.slice a1 S.nl c1) (.slice a2 S.nw c2) (.int .i64 0) (.bool false) (.int .i64 0) w2) := HE.out.later q1
    obtain ⟨⟨⟨p0, p1, p2⟩, _⟩, ⟨⟨r0, r1, r2⟩, f0, f1, f2⟩, _⟩ := HE.out
    clear q1
    go_wp2_with fail
    refine (get_some _ b _ _ S.nl S.l S.nw S.k g u1 u2 key ts i v _ HC HZ.out.2.2.1 HZ.out.2.2.2 HK.out HB.out HR.out.1 HR.out.2 hw0 hw1 HM.out).mono ?_
    rintro e w3 ⟨rfl, q1⟩
    clear p0 p1 p2 r0 r1 r2 f0 f1 f2
    have HE : Hid (GetCall w B S (.slice a0 S.nc c0) (.slice a1 S.nl c1) (.slice a2 S.nw c2) (.int .i64 0) (.bool false) (.int .i64 0) w3) := HE.out.later q1
    obtain ⟨⟨⟨p0, p1, p2⟩, _⟩, ⟨⟨r0, r1, r2⟩, f0, f1, f2⟩, _⟩ := HE.out
    clear q1
    clear HC
    go_wp2_with fail
    refine (refusalCode_nil _).mono ?_
    rintro e w4 ⟨rfl, q1⟩
    clear p0 p1 p2 r0 r1 r2 f0 f1 f2
    have HE : Hid (GetCall w B S (.slice a0 S.nc c0) (.slice a1 S.nl c1) (.slice a2 S.nw c2) (.int .i64 0) (.bool false) (.int .i64 0) w4) := HE.out.later q1
    obtain ⟨⟨⟨p0, p1, p2⟩, _⟩, ⟨⟨r0, r1, r2⟩, f0, f1, f2⟩, _⟩ := HE.out
    clear q1
    go_wp2
    exact bodyPost_ret (v := .agg #[.int .i64 0, .bool true, .int .i64 v]) (by simp [results, Tryz.results15, go_sem, r0, r1, r2]) rfl ⟨rfl, ((HE.out.2.2.2.setCell (Nat.le_succ _) _).setCell (Nat.le_succ _) _).setCell (Nat.le_succ _) _⟩
def ValEnv (w : World) (b oo : Nat) (S : Sto) (v0 v1 v2 : Value) (g o g' o' i j : Nat) (st v : Int) (x : World) : Prop := x.cell? ⟨b, oo, none⟩ = some v0 ∧ x.cell? ⟨b, oo + 2, none⟩ = some v2 ∧ x.cell? ⟨g, o + i * 4 + 2, none⟩ = some (.int .i64 st) ∧ x.cell? ⟨g', o' + j * 3 + 2, none⟩ = some (.int .i64 v) ∧ LiesO x b oo S v0 v1 v2 ∧ Below w.heap.size w x
set_option maxRecDepth 100000 in
set_option maxHeartbeats 4000000 in
theorem l3Value_someO (S : Sto) (b oo : Nat) (v0 v1 v2 : Value) (key ts : Int) (i j : Nat) (w : World) (h : LiesO w b oo S v0 v1 v2) (hc : S.nc ≤ 200) (hn : S.nw ≤ 200) (z0 : scan (cellF S.c) S.nc = 0) (hr : reads S key ts i j) :
    Calls Tryz.prog 64 #[.pointer (some ⟨b, oo, none⟩), .int .i64 key, .int .i64 ts] w fun e w' => e = .returned (.tuple #[.int .i64 (S.c (j * 3 + 2)), .bool true]) ∧ Below w.heap.size w w' := by
  obtain ⟨a0, c0, a1, c1, a2, c2, rfl, rfl, rfl⟩ := h.2.form
  have H : Hid (LiesO w b oo S (.slice a0 S.nc c0) (.slice a1 S.nl c1) (.slice a2 S.nw c2)) := h
  have hfirst : FirstAt (cellIs S.c key (S.k (i * 4 + 2))) S.nc j := Or.inr ⟨j, hr.2.2.1, rfl, hr.2.2.2, fun q hq e => (cells_rise z0 j hr.2.2.1 q hq).ne ⟨e.1.trans hr.2.2.2.1.symm, e.2.trans hr.2.2.2.2.symm⟩⟩
  have HR : Hid (lastW S.k S.nw key ts i) := hr.1
  have h3 := hr.2.1
  have hi := hr.1.1
  have hj := hr.2.2.1
  obtain ⟨st, hst⟩ : ∃ x, S.k (i * 4 + 2) = x := ⟨_, rfl⟩
  obtain ⟨v, hv⟩ : ∃ x, S.c (j * 3 + 2) = x := ⟨_, rfl⟩
  rw [hst] at hfirst
  rw [hv]
  have HF : Hid (FirstAt (cellIs S.c key st) S.nc j) := hfirst
  have HV : Hid (S.k (i * 4 + 2) = st ∧ S.c (j * 3 + 2) = v ∧ S.k (i * 4 + 3) = 1) := ⟨hst, hv, h3⟩
  clear h hr hfirst hst hv h3 z0
  go_enter Tryz.func64, Tryz.ntmps64
  go_wp2_with fail
  refine (l2Last_yesO S b oo _ _ _ key ts i _ H.out hn HR.out).mono ?_
  rintro e w1 ⟨rfl, q1⟩
  have H1 : Hid (LiesO w1 b oo S (.slice a0 S.nc c0) (.slice a1 S.nl c1) (.slice a2 S.nw c2)) := H.out.later q1
  have Q1 : Hid (Below w.heap.size w w1) := q1
  obtain ⟨g, o, rfl, _, hg, x0, x1, x2, x3⟩ := H1.out.2.2.2.at4 hi
  obtain ⟨g', o', rfl, _, hg', y0, y1, y2⟩ := H1.out.2.1.at3 hj
  rw [HV.out.1] at x2
  rw [HV.out.2.2] at x3
  rw [HV.out.2.1] at y2
  have e0 := H1.out.1.1
  have e2 := H1.out.1.2.2
  have hbl := H1.out.lt
  have hin : (i : Int) < (S.nw : Int) := by omega
  have hjn : (j : Int) < (S.nc : Int) := by omega
  have h0 : ValEnv w b oo S (.slice (some ⟨g', o', none⟩) S.nc c0) (.slice a1 S.nl c1) (.slice (some ⟨g, o, none⟩) S.nw c2) g o g' o' i j st v w1.drew := ⟨e0, e2, x2, y2, H1.out, Q1.out.drew⟩
  clear q1 H Q1 H1
  go_wp2_with fail
  refine wp_region_held_drew (S := ValEnv w b oo S (.slice (some ⟨g', o', none⟩) S.nc c0) (.slice a1 S.nl c1) (.slice (some ⟨g, o, none⟩) S.nw c2) g o g' o' i j st v) (by kernel_rfl) h0 (fun hS => ?_)
  clear h0 x0 x1 x2 x3 y0 y1 y2 e0 e2
  refine tkH 0 ?_ hS (fun wx hx => ?_) ?_; rotate_left
  · obtain ⟨hx0, hx1, hx2, hx3, _⟩ := hx; go_simp; try with_reducible rfl
  refine tkH 1 ?_ hS (fun wx hx => ?_) ?_; rotate_left
  · obtain ⟨hx0, hx1, hx2, hx3, _⟩ := hx; go_simp; try with_reducible rfl
  refine tkH 2 ?_ hS (fun wx hx => ?_) ?_; rotate_left
  · obtain ⟨hx0, hx1, hx2, hx3, _⟩ := hx; go_simp; try with_reducible rfl
  refine tkH 3 ?_ hS (fun wx hx => ?_) ?_; rotate_left
  · obtain ⟨hx0, hx1, hx2, hx3, _⟩ := hx; go_simp; try with_reducible rfl
  refine tkH 4 ?_ hS (fun wx hx => ?_) ?_; rotate_left
  · obtain ⟨hx0, hx1, hx2, hx3, _⟩ := hx; go_simp; try with_reducible rfl
  refine tkH 5 ?_ hS (fun wx hx => ?_) ?_; rotate_left
  · obtain ⟨hx0, hx1, hx2, hx3, _⟩ := hx; go_simp; try with_reducible rfl
  refine tkH 6 ?_ hS (fun wx hx => ?_) ?_; rotate_left
  · obtain ⟨hx0, hx1, hx2, hx3, _⟩ := hx; go_simp; try with_reducible rfl
  refine tkH 7 ?_ hS (fun wx hx => ?_) ?_; rotate_left
  · obtain ⟨hx0, hx1, hx2, hx3, _⟩ := hx; go_simp; try with_reducible rfl
  refine tkH 8 ?_ hS (fun wx hx => ?_) ?_; rotate_left
  · obtain ⟨hx0, hx1, hx2, hx3, _⟩ := hx; go_simp; try with_reducible rfl
  refine tkH 9 ?_ hS (fun wx hx => ?_) ?_; rotate_left
  · obtain ⟨hx0, hx1, hx2, hx3, _⟩ := hx; go_simp; try with_reducible rfl
  refine tkH 10 ?_ hS (fun wx hx => ?_) ?_; rotate_left
  · obtain ⟨hx0, hx1, hx2, hx3, _⟩ := hx; go_simp; try with_reducible rfl
  refine tkH 11 ?_ hS (fun wx hx => ?_) ?_; rotate_left
  · obtain ⟨hx0, hx1, hx2, hx3, _⟩ := hx; go_simp; try with_reducible rfl
  refine tkH 12 ?_ hS (fun wx hx => ?_) ?_; rotate_left
  · obtain ⟨hx0, hx1, hx2, hx3, _⟩ := hx; go_simp; try with_reducible rfl
  refine tkH 13 ?_ hS (fun wx hx => ?_) ?_; rotate_left
  · obtain ⟨hx0, hx1, hx2, hx3, _⟩ := hx; go_simp; try with_reducible rfl
  refine rdH 14 (fun K hK => ?_)
  go_simp
  go_wp2_with fail
  refine (l2Cell_isO S b oo _ _ _ key st j _ hS.2.2.2.2.1 hc HF.out).mono ?_
  rintro e w2 ⟨rfl, rfl⟩
  have hS' := hS
  go_wp2_with fail
  refine hK.out _ _ hS' (fun hS => ?_)
  clear hK K hS'
  refine tkH 15 ?_ hS (fun wx hx => ?_) ?_; rotate_left
  · obtain ⟨hx0, hx1, hx2, hx3, _⟩ := hx; go_simp; try with_reducible rfl
  refine tkH 16 ?_ hS (fun wx hx => ?_) ?_; rotate_left
  · obtain ⟨hx0, hx1, hx2, hx3, _⟩ := hx; go_simp; try with_reducible rfl
  refine tkH 17 ?_ hS (fun wx hx => ?_) ?_; rotate_left
  · obtain ⟨hx0, hx1, hx2, hx3, _⟩ := hx; go_simp; try with_reducible rfl
  refine tkH 18 ?_ hS (fun wx hx => ?_) ?_; rotate_left
  · obtain ⟨hx0, hx1, hx2, hx3, _⟩ := hx; go_simp; try with_reducible rfl
  refine tkH 19 ?_ hS (fun wx hx => ?_) ?_; rotate_left
  · obtain ⟨hx0, hx1, hx2, hx3, _⟩ := hx; go_simp; try with_reducible rfl
  refine wpAnyH_done (by kernel_rfl) ?_ _
  go_simp
  go_wp2
  go_ret2
  exact ⟨rfl, hS.2.2.2.2.2⟩
theorem l3Value_some (S : Sto) (b : Nat) (v0 v1 v2 : Value) (key ts : Int) (i j : Nat) (w : World) (h : Lies w b S v0 v1 v2) (hc : S.nc ≤ 200) (hn : S.nw ≤ 200) (z0 : scan (cellF S.c) S.nc = 0) (hr : reads S key ts i j) :
    Calls Tryz.prog 64 #[.pointer (some ⟨b, 0, none⟩), .int .i64 key, .int .i64 ts] w fun e w' => e = .returned (.tuple #[.int .i64 (S.c (j * 3 + 2)), .bool true]) ∧ Below w.heap.size w w' := l3Value_someO S b 0 v0 v1 v2 key ts i j w h hc hn z0 hr
set_option maxRecDepth 100000 in
set_option maxHeartbeats 4000000 in
theorem l3Value_noneO (S : Sto) (b oo : Nat) (v0 v1 v2 : Value) (key ts : Int) (w : World) (h : LiesO w b oo S v0 v1 v2) (hn : S.nw ≤ 200) (hl : ∀ i, lastW S.k S.nw key ts i → S.k (i * 4 + 3) ≠ 1) :
    Calls Tryz.prog 64 #[.pointer (some ⟨b, oo, none⟩), .int .i64 key, .int .i64 ts] w fun e w' => e = .returned (.tuple #[.int .i64 0, .bool false]) ∧ Below w.heap.size w w' := by
  obtain ⟨a0, c0, a1, c1, a2, c2, rfl, rfl, rfl⟩ := h.2.form
  have H : Hid (LiesO w b oo S (.slice a0 S.nc c0) (.slice a1 S.nl c1) (.slice a2 S.nw c2)) := h
  clear h
  by_cases he : ∃ i, lastW S.k S.nw key ts i
  · obtain ⟨i, hi⟩ := he
    have h3 := hl i hi
    have HR : Hid (lastW S.k S.nw key ts i) := hi
    have hi' := hi.1
    clear hl hi
    go_enter Tryz.func64, Tryz.ntmps64
    go_wp2_with fail
    refine (l2Last_yesO S b oo _ _ _ key ts i _ H.out hn HR.out).mono ?_
    rintro e w1 ⟨rfl, q1⟩
    have H1 : Hid (LiesO w1 b oo S (.slice a0 S.nc c0) (.slice a1 S.nl c1) (.slice a2 S.nw c2)) := H.out.later q1
    have Q1 : Hid (Below w.heap.size w w1) := q1
    obtain ⟨g, o, rfl, _, hg, x0, x1, x2, x3⟩ := H1.out.2.2.2.at4 hi'
    obtain ⟨n3, N3⟩ : ∃ x, S.k (i * 4 + 3) = x := ⟨_, rfl⟩
    rw [N3] at x3 h3
    have d3 : (n3 != 1) = true := bne_iff_ne.2 h3
    have di : decide ((i : Int) < 0) = false := decide_eq_false (by omega)
    have e2 := H1.out.1.2.2
    have hbl := H1.out.lt
    have hin : (i : Int) < (S.nw : Int) := by omega
    clear q1 H N3 h3 H1
    go_wp2
    go_ret2
    exact ⟨rfl, Q1.out⟩
  · have HN : Hid (∀ i, ¬ lastW S.k S.nw key ts i) := fun i hi => he ⟨i, hi⟩
    clear hl he
    go_enter Tryz.func64, Tryz.ntmps64
    go_wp2_with fail
    refine (l2Last_noO S b oo _ _ _ key ts _ H.out hn HN.out).mono ?_
    rintro e w1 ⟨rfl, q1⟩
    have Q1 : Hid (Below w.heap.size w w1) := q1
    clear q1 H
    go_wp2
    go_ret2
    exact ⟨rfl, Q1.out⟩
theorem l3Value_none (S : Sto) (b : Nat) (v0 v1 v2 : Value) (key ts : Int) (w : World) (h : Lies w b S v0 v1 v2) (hn : S.nw ≤ 200) (hl : ∀ i, lastW S.k S.nw key ts i → S.k (i * 4 + 3) ≠ 1) :
    Calls Tryz.prog 64 #[.pointer (some ⟨b, 0, none⟩), .int .i64 key, .int .i64 ts] w fun e w' => e = .returned (.tuple #[.int .i64 0, .bool false]) ∧ Below w.heap.size w w' := l3Value_noneO S b 0 v0 v1 v2 key ts w h hn hl
end Go.Proofs.YtiikncbohnhcaaaGreatDoor

namespace Go.Proofs.YtiikncbohnhcaaaGreatDoor
open Go.RowKit

theorem reads_one {S : Sto} (z0 : scan (cellF S.c) S.nc = 0) {key ts : Int} {i j i' j' : Nat} (h : reads S key ts i j) (h' : reads S key ts i' j') : i = i' ∧ j = j' := by
  obtain rfl := h.1.one h'.1
  refine ⟨rfl, ?_⟩
  rcases Nat.lt_trichotomy j j' with e | e | e
  · exact absurd ⟨h.2.2.2.1.trans h'.2.2.2.1.symm, h.2.2.2.2.trans h'.2.2.2.2.symm⟩ (cells_rise z0 j' h'.2.2.1 j e).ne
  · exact e
  · exact absurd ⟨h'.2.2.2.1.trans h.2.2.2.1.symm, h'.2.2.2.2.trans h.2.2.2.2.symm⟩ (cells_rise z0 j h.2.2.1 j' e).ne
theorem reads_or {S : Sto} (hn : needs S) (key ts : Int) : (∀ i, lastW S.k S.nw key ts i → S.k (i * 4 + 3) ≠ 1) ∨ ∃ i j, reads S key ts i j := by
  by_cases hl : ∀ i, lastW S.k S.nw key ts i → S.k (i * 4 + 3) ≠ 1
  · exact Or.inl hl
  · have he : ∃ i, lastW S.k S.nw key ts i ∧ S.k (i * 4 + 3) = 1 := Classical.byContradiction fun q => hl (fun i hi e => q ⟨i, hi, e⟩)
    obtain ⟨i, hi, h1⟩ := he
    obtain ⟨j, hj, hc⟩ := hn.1 i hi.1 h1
    rw [hi.2.1.1] at hc
    exact Or.inr ⟨i, j, hi, h1, hj, hc⟩
open Classical in
/-- What is read of a key at a time, if there is something. -/
noncomputable def rv (S : Sto) (key ts : Int) : Option Int := if h : ∃ v, ∃ i j, reads S key ts i j ∧ v = S.c (j * 3 + 2) then some (Classical.choose h) else none
theorem rv_some {S : Sto} (z0 : scan (cellF S.c) S.nc = 0) {key ts : Int} {i j : Nat} (h : reads S key ts i j) : rv S key ts = some (S.c (j * 3 + 2)) := by
  have hh : ∃ v, ∃ i j, reads S key ts i j ∧ v = S.c (j * 3 + 2) := ⟨_, i, j, h, rfl⟩
  unfold rv
  rw [dif_pos hh]
  obtain ⟨i', j', h', e⟩ := Classical.choose_spec hh
  rw [e, (reads_one z0 h h').2]
theorem rv_none {S : Sto} {key ts : Int} (h : ∀ i, lastW S.k S.nw key ts i → S.k (i * 4 + 3) ≠ 1) : rv S key ts = none := by
  unfold rv
  rw [dif_neg]
  rintro ⟨_, i, j, hr, _⟩
  exact h i hr.1 hr.2.1
noncomputable def scanL (S : Sto) (ts a : Int) : Nat → List Int
  | 0 => []
  | m + 1 => scanL S ts a m ++ (match rv S (a + m) ts with | some v => [a + m, v] | none => [])
noncomputable def scanN (S : Sto) (ts a : Int) : Nat → Nat
  | 0 => 0
  | m + 1 => scanN S ts a m + (match rv S (a + m) ts with | some _ => 1 | none => 0)
theorem scanL_length (S : Sto) (ts a : Int) : ∀ m, (scanL S ts a m).length = scanN S ts a m * 2
  | 0 => rfl
  | m + 1 => by
    have ih := scanL_length S ts a m
    unfold scanL scanN
    cases rv S (a + m) ts with
    | none => simp [ih]
    | some v => simp [ih]; omega
theorem scanN_le (S : Sto) (ts a : Int) : ∀ m, scanN S ts a m ≤ m
  | 0 => Nat.le_refl _
  | m + 1 => by
    have ih := scanN_le S ts a m
    unfold scanN
    cases rv S (a + m) ts with
    | none => simp; omega
    | some v => simp; omega
theorem scanL_yes {S : Sto} {ts a v : Int} {m : Nat} (h : rv S (a + m) ts = some v) : scanL S ts a (m + 1) = scanL S ts a m ++ [a + m, v] ∧ scanN S ts a (m + 1) = scanN S ts a m + 1 := by
  constructor
  · rw [scanL, h]
  · rw [scanN, h]
theorem scanL_no {S : Sto} {ts a : Int} {m : Nat} (h : rv S (a + m) ts = none) : scanL S ts a (m + 1) = scanL S ts a m ∧ scanN S ts a (m + 1) = scanN S ts a m := by
  constructor
  · rw [scanL, h, List.append_nil]
  · rw [scanN, h, Nat.add_zero]
/-- A row of pairs that a call has made, as a list of numbers. -/
def OwnL (w : World) (B : Nat) (e : TypeId) (v : Value) (n : Nat) (L : List Int) : Prop := w.ownsRow B e 2 v n (L.map (Value.int .i64))
theorem vals_list (L : List Int) : vals (fun p => L.getD p 0) L.length = L.map (Value.int .i64) := by
  apply List.ext_getElem?
  intro p
  rcases Nat.lt_or_ge p L.length with h | h
  · rw [vals_at _ _ _ h]
    simp [h]
  · rw [List.getElem?_eq_none (by rw [vals_length]; exact h), List.getElem?_eq_none (by simpa using h)]
theorem OwnL.own {w : World} {B : Nat} {e : TypeId} {v : Value} {n : Nat} {L : List Int} (h : OwnL w B e v n L) (hl : L.length = n * 2) : Own w B e 2 n (fun p => L.getD p 0) v := by
  unfold Own
  rw [← hl, vals_list]
  exact h
theorem OwnL.later {w w' : World} {B : Nat} {e : TypeId} {v : Value} {n : Nat} {L : List Int} (h : OwnL w B e v n L) (hb : Below w.heap.size w w') : OwnL w' B e v n L := by
  refine ⟨h.1, ?_⟩
  rcases h.2 with q | ⟨g, cap, cur, rfl, hg, hw, r⟩
  · exact Or.inl q
  · exact Or.inr ⟨g, cap, cur, rfl, hg, (hb.block g (Array.getElem?_eq_some_iff.1 hw).1).trans hw, r⟩
theorem OwnL.nil (w : World) (B : Nat) (e : TypeId) : OwnL w B e (.slice none 0 0) 0 [] := ⟨rfl, Or.inl ⟨rfl, rfl⟩⟩
theorem OwnL.form {w : World} {B : Nat} {e : TypeId} {v : Value} {n : Nat} {L : List Int} (h : OwnL w B e v n L) : ∃ ao cp, v = .slice ao n cp := by
  rcases h.2 with ⟨rfl, rfl⟩ | ⟨g, cap, cur, rfl, _⟩
  · exact ⟨_, _, rfl⟩
  · exact ⟨_, _, rfl⟩
/-- A block on one of the keys from a on, m of them. -/
def anyBlocks (S : Sto) (ts a : Int) (m : Nat) : Prop := ∃ q, q < m ∧ blocks S.l S.nl (a + q) ts
end Go.Proofs.YtiikncbohnhcaaaGreatDoor

namespace Go.Proofs.YtiikncbohnhcaaaGreatDoor
open Go.RowKit

set_option maxHeartbeats 400000 in
theorem boundsFit_yes (a b : Int) (w : World) (ha : 0 ≤ a) (ha2 : a ≤ 200) (hb : 0 ≤ b) (hb2 : b ≤ 200) :
    Calls Tryz.prog 76 #[.int .i64 a, .int .i64 b] w fun e w' => e = .returned (.bool true) ∧ w' = w := by
  have d2 : decide (b ≤ 200) = true := decide_eq_true hb2
  go_enter Tryz.func76, Tryz.ntmps76
  go_wp2
  go_ret
  exact ⟨rfl, rfl⟩
set_option maxHeartbeats 400000 in
theorem boundsFit_no (a b : Int) (w : World) (h : (a < 0 ∨ 200 < a) ∨ (b < 0 ∨ 200 < b)) :
    Calls Tryz.prog 76 #[.int .i64 a, .int .i64 b] w fun e w' => e = .returned (.bool false) ∧ w' = w := by
  by_cases ha : a < 0
  · clear h
    have d0 : decide (0 ≤ a) = false := decide_eq_false (by omega)
    go_enter Tryz.func76, Tryz.ntmps76
    go_wp2
    go_ret
    exact ⟨rfl, rfl⟩
  by_cases ha2 : 200 < a
  · clear h
    have d1 : decide (a ≤ 200) = false := decide_eq_false (by omega)
    go_enter Tryz.func76, Tryz.ntmps76
    go_wp2
    go_ret
    exact ⟨rfl, rfl⟩
  have d1 : decide (a ≤ 200) = true := decide_eq_true (by omega)
  by_cases hb : b < 0
  · clear h
    have d0 : decide (0 ≤ b) = false := decide_eq_false (by omega)
    go_enter Tryz.func76, Tryz.ntmps76
    go_wp2
    go_ret
    exact ⟨rfl, rfl⟩
  have d2 : decide (b ≤ 200) = false := decide_eq_false (by omega)
  clear h
  go_enter Tryz.func76, Tryz.ntmps76
  go_wp2
  go_ret
  exact ⟨rfl, rfl⟩
theorem info_Pair : (Tryz.prog.info? 68).map (fun i => (i.zero, i.size, i.bytes)) = some (some (.agg #[.int .i64 0, .int .i64 0]), 2, 16) := by kernel_rfl
/-- What scan tells: an error where a key is blocked, else the pairs. -/
def ScanTold (S : Sto) (ts a : Int) (m B : Nat) (w' : World) (v er : Value) : Prop :=
  (anyBlocks S ts a m ∧ v = .slice none 0 0 ∧ er = .iface 136 (.agg #[.int .i64 1])) ∨ (¬ anyBlocks S ts a m ∧ er = .nilIface ∧ OwnL w' B 68 v (scanN S ts a m) (scanL S ts a m))
set_option maxRecDepth 100000 in
set_option maxHeartbeats 4000000 in
theorem scan_any (S : Sto) (B b g : Nat) (u1 u2 : Value) (fr tto ts : Int) (w : World) (h : Cols w B b S.nc (cellM S S.nc) S.nl S.l S.nw S.k g u1 u2) (hz : storeF S = 0) (ha : 0 ≤ fr) (ha2 : fr ≤ 200) (hb : 0 ≤ tto) (hb2 : tto ≤ 200) :
    Calls Tryz.prog 77 #[.pointer (some ⟨b, 0, none⟩), .int .i64 fr, .int .i64 tto, .int .i64 ts] w fun e w' => ∃ v er, e = .returned (.tuple #[v, er]) ∧ ScanTold S ts fr (tto - fr).toNat w.heap.size w' v er ∧ Below w.heap.size w w' := by
  have Z := storeF_zero hz
  have H : Hid (Cols w B b S.nc (cellM S S.nc) S.nl S.l S.nw S.k g u1 u2) := h
  have HZ : Hid (scan (cellF S.c) S.nc = 0 ∧ (S.nc ≤ 200 ∧ S.nl ≤ 200 ∧ S.nw ≤ 200)) := ⟨Z.2.1, Z.1⟩
  have HW : Hid (∀ i, i < S.nw → 1 ≤ S.k (i * 4 + 3) ∧ Wf (S.k (i * 4 + 2))) := fun i hi => by have := writeF_zero (scan_zero Z.2.2.2.1 i hi); exact ⟨by omega, wf_small (by omega) (by omega)⟩
  have HN : Hid (needs S) := Z.2.2.2.2.1
  clear h hz Z
  obtain ⟨i0, hi, hz0, hz1, hz2⟩ := info_parts info_Pair
  go_enter Tryz.func77, Tryz.ntmps77
  go_wp2
  go_loopw [10, 11] (fun v k wr => ∃ m : Nat, k = .int .i64 (fr + m) ∧ m ≤ (tto - fr).toNat ∧ Hid (OwnL wr w.heap.size 68 v (scanN S ts fr m) (scanL S ts fr m)) ∧ Hid (∀ q, q < m → ¬ blocks S.l S.nl (fr + q) ts) ∧ Hid (Below w.heap.size w wr)) (fun _ k _ => (tto - intOf k).toNat)
  case atStart => exact ⟨0, by go_num, by omega, OwnL.nil _ _ _, fun q hq => absurd hq (Nat.not_lt_zero q), Below.refl _ _⟩
  case round =>
    obtain ⟨m, rfl, hm, HO, HS, HB⟩ := hrel
    obtain ⟨ao, cp, rfl⟩ := HO.out.form
    by_cases hlt : fr + m < tto
    case neg =>
      have em : (tto - fr).toNat = m := by omega
      have E : Hid (ScanTold S ts fr (tto - fr).toNat w.heap.size wr (.slice ao (scanN S ts fr m) cp) .nilIface) := by
        unfold Hid
        rw [em]
        exact Or.inr ⟨fun ⟨q, hq, hk⟩ => HS.out q hq hk, rfl, HO.out⟩
      clear em HS HO
      go_wp2
      go_ret2
      exact ⟨_, _, rfl, E.out, HB.out⟩
    have hC : Hid (Cols wr B b S.nc (cellM S S.nc) S.nl S.l S.nw S.k g u1 u2) := H.out.later HB.out
    obtain ⟨key, hkey⟩ : ∃ key, fr + (m : Int) = key := ⟨_, rfl⟩
    have hk0 : 0 ≤ key := by omega
    have hk1 : key ≤ 200 := by omega
    have hw0 : Wf key := wf_small hk0 (by omega)
    by_cases hbk : blocks S.l S.nl key ts
    · have E : Hid (∀ W, ScanTold S ts fr (tto - fr).toNat w.heap.size W (.slice none 0 0) (.iface 136 (.agg #[.int .i64 1]))) := fun W => Or.inl ⟨⟨m, by omega, by rw [hkey]; exact hbk⟩, rfl, rfl⟩
      have HK : Hid (blocks S.l S.nl key ts) := hbk
      rw [hkey]
      rw [hkey] at hlt
      clear hbk HS HO
      go_wp2_with fail
      refine (get_blocked B b _ _ S.nl S.l _ _ g u1 u2 key ts _ hC.out HZ.out.2.2.1 HK.out).mono ?_
      rintro e w1 ⟨rfl, q1⟩
      have HB1 : Hid (Below w.heap.size w w1) := HB.out.trans (q1.mono HB.out.size)
      clear q1
      go_wp2
      go_ret2
      exact ⟨_, _, rfl, E.out _, HB1.out⟩
    have HNB : Hid (∀ q, q < m + 1 → ¬ blocks S.l S.nl (fr + q) ts) := all_next HS.out (by rw [hkey]; exact hbk)
    have HK : Hid (¬ blocks S.l S.nl key ts) := hbk
    have hwrap : IntKind.i64.wrap (key + 1) = key + 1 := by
      have e0 : IntKind.i64.wrap (key + 1) = key + 1 := by
        simp [IntKind.wrap, IntKind.bits, IntKind.signed]
        omega
      exact e0
    rcases reads_or HN.out key ts with hno | ⟨i, j, hr⟩
    · have hrv := rv_none hno
      have E : Hid (OwnL wr w.heap.size 68 (.slice ao (scanN S ts fr m) cp) (scanN S ts fr (m + 1)) (scanL S ts fr (m + 1))) := by
        unfold Hid
        rw [(scanL_no (a := fr) (m := m) (by rw [hkey]; exact hrv)).1, (scanL_no (a := fr) (m := m) (by rw [hkey]; exact hrv)).2]
        exact HO.out
      have HNo : Hid (∀ i, lastW S.k S.nw key ts i → S.k (i * 4 + 3) ≠ 1) := hno
      obtain ⟨nn, hnn⟩ : ∃ nn, scanN S ts fr m = nn := ⟨_, rfl⟩
      rw [hnn] at E
      rw [hnn, hkey]
      rw [hkey] at hlt
      clear hbk HS HO hno hrv hnn
      go_wp2_with fail
      refine (get_none B b _ _ S.nl S.l S.nw S.k g u1 u2 key ts _ hC.out HZ.out.2.2.1 HZ.out.2.2.2 (fun i hi => (HW.out i hi).1) HK.out HNo.out).mono ?_
      rintro e w1 ⟨rfl, q1⟩
      have HB1 : Hid (Below w.heap.size w w1) := HB.out.trans (q1.mono HB.out.size)
      have E1 : Hid (OwnL w1 w.heap.size 68 (.slice ao nn cp) (scanN S ts fr (m + 1)) (scanL S ts fr (m + 1))) := E.out.later q1
      clear q1 E
      go_wp2
      go_roundw
      case rel => exact ⟨m + 1, by rw [← hkey]; go_num, by omega, E1, HNB, HB1⟩
      case measure => simp [intOf]; omega
    · have hrv := rv_some HZ.out.1 hr
      obtain ⟨v, hv⟩ : ∃ v, S.c (j * 3 + 2) = v := ⟨_, rfl⟩
      rw [hv] at hrv
      have hcm := cellM_at HZ.out.1 hr.2.2.1 hr.2.2.2
      rw [hv] at hcm
      have HL : Hid (scanL S ts fr (m + 1) = scanL S ts fr m ++ [key, v] ∧ scanN S ts fr (m + 1) = scanN S ts fr m + 1) := by
        have := scanL_yes (a := fr) (m := m) (by rw [hkey]; exact hrv)
        rw [hkey] at this
        exact this
      have HR : Hid (lastW S.k S.nw key ts i ∧ S.k (i * 4 + 3) = 1) := ⟨hr.1, hr.2.1⟩
      have hw1 := (HW.out i hr.1.1).2
      have HM : Hid (cellM S S.nc key (S.k (i * 4 + 2)) = some v) := hcm
      have hnle := scanN_le S ts fr m
      obtain ⟨nn, hnn⟩ : ∃ nn, scanN S ts fr m = nn := ⟨_, rfl⟩
      have HO2 : Hid (OwnL wr w.heap.size 68 (.slice ao nn cp) nn (scanL S ts fr m)) := by unfold Hid; rw [← hnn]; exact HO.out
      rw [hnn] at hnle HL
      rw [hnn, hkey]
      rw [hkey] at hlt
      clear hbk HS HO hr hrv hv hcm hnn
      go_wp2_with fail
      refine (get_some B b _ _ S.nl S.l S.nw S.k g u1 u2 key ts i v _ hC.out HZ.out.2.2.1 HZ.out.2.2.2 (fun i hi => (HW.out i hi).1) HK.out HR.out.1 HR.out.2 hw0 hw1 HM.out).mono ?_
      rintro e w1 ⟨rfl, q1⟩
      have HB1 : Hid (Below w.heap.size w (w1.alloc (.cells #[.int .i64 key, .int .i64 v] 68))) := (HB.out.trans (q1.mono HB.out.size)).alloc (by have := HB.out.size; have := q1.size; omega) _
      have hown := (HO2.out.later q1).later (below_alloc w1 (.cells #[.int .i64 key, .int .i64 v] 68))
      clear q1 HO2
      go_wp2_with (at_builtin; refine wpList_append_own _ rfl _ _ 58 rfl w.heap.size 68 i0 (.agg #[.int .i64 0, .int .i64 0]) 2 16 Tryz.underlying58 hi hz0 hz1 hz2 rfl (by decide) _ _ _ rfl hown ⟨_, 0, none⟩ 1 1 [.int .i64 key, .int .i64 v] rfl rfl ?c1 ?c2 ?c3 ?c4 ?c5 ?_)
      case c1 =>
        intro q u hq
        match q, hq with
        | 0, hq => simp at hq; subst hq; simp [Addr.add]
        | 1, hq => simp at hq; subst hq; simp [Addr.add]
      case c2 =>
        intro u hu
        simp at hu
        rcases hu with rfl | rfl <;> rfl
      case c3 => unfold maxLen; omega
      case c4 => omega
      case c5 => exact HB1.out.size
      intro v' w2 ho hg2 _
      have E2 : Hid (OwnL w2 w.heap.size 68 v' (scanN S ts fr (m + 1)) (scanL S ts fr (m + 1)) ∧ Below w.heap.size w w2) := by
        refine ⟨?_, below_grownBy HB1.out HB1.out.size (fun bb hbb => ?_) hg2⟩
        · unfold OwnL
          rw [HL.out.1, HL.out.2, List.map_append]
          exact ho
        · rcases hown.2 with ⟨e, _⟩ | ⟨gg, _, _, e, hge, _⟩
          · rw [e] at hbb; simp [Value.ownBlock] at hbb
          · rw [e] at hbb; simp [Value.ownBlock] at hbb; omega
      clear ho hg2 hown HB1
      go_wp2
      go_roundw
      case rel => exact ⟨m + 1, by rw [← hkey]; go_num, by omega, E2.out.1, HNB, E2.out.2⟩
      case measure => simp [intOf]; omega
end Go.Proofs.YtiikncbohnhcaaaGreatDoor

namespace Go.Proofs.YtiikncbohnhcaaaGreatDoor
open Go.RowKit

def scanFits (fr tto ts : Int) : Prop := (0 ≤ fr ∧ fr ≤ 200) ∧ (0 ≤ tto ∧ tto ≤ 200) ∧ isTs ts
def ScanAns (S : Sto) (fr tto ts c : Int) (n : Nat) (F : Nat → Int) : Prop :=
  (storeF S ≠ 0 ∧ c = storeF S ∧ n = 0) ∨ (storeF S = 0 ∧ ¬ scanFits fr tto ts ∧ c = 3 ∧ n = 0) ∨ (storeF S = 0 ∧ scanFits fr tto ts ∧ anyBlocks S ts fr (tto - fr).toNat ∧ c = 7 ∧ n = 0) ∨
  (storeF S = 0 ∧ scanFits fr tto ts ∧ ¬ anyBlocks S ts fr (tto - fr).toNat ∧ c = 0 ∧ n = scanN S ts fr (tto - fr).toNat ∧ F = fun p => (scanL S ts fr (tto - fr).toNat).getD p 0)
theorem ScanAns.get (S : Sto) (fr tto ts : Int) : ∃ c n F, n ≤ 1000 ∧ ScanAns S fr tto ts c n F := by
  by_cases hz : storeF S = 0
  case neg => exact ⟨_, 0, fun _ => 0, by omega, Or.inl ⟨hz, rfl, rfl⟩⟩
  by_cases hf : scanFits fr tto ts
  case neg => exact ⟨_, 0, fun _ => 0, by omega, Or.inr (Or.inl ⟨hz, hf, rfl, rfl⟩)⟩
  by_cases hb : anyBlocks S ts fr (tto - fr).toNat
  · exact ⟨_, 0, fun _ => 0, by omega, Or.inr (Or.inr (Or.inl ⟨hz, hf, hb, rfl, rfl⟩))⟩
  · exact ⟨_, _, _, by have := scanN_le S ts fr (tto - fr).toNat; have := hf.1; have := hf.2.1; omega, Or.inr (Or.inr (Or.inr ⟨hz, hf, hb, rfl, rfl, rfl⟩))⟩
theorem row_none2 (w : World) (B : Nat) (F : Nat → Int) : Row w B 2 0 F (.slice none 0 0) ∧ Free w (0 * 2) (.slice none 0 0) := ⟨⟨_, _, rfl, fun q => absurd q (Nat.lt_irrefl 0)⟩, by rw [Nat.zero_mul]; exact Free.of0 _ _⟩
set_option maxRecDepth 100000 in
set_option maxHeartbeats 4000000 in
theorem implScanAt_is (S : Sto) (v0 v1 v2 : Value) (fr tto ts c : Int) (n : Nat) (F : Nat → Int) (B : Nat) (w : World) (h : St w B S v0 v1 v2) (hA : ScanAns S fr tto ts c n F) (hL : Laid w) :
    Calls Tryz.prog 28 #[.agg #[v0, v1, v2], .int .i64 fr, .int .i64 tto, .int .i64 ts] w (ResRow 2 w c n F) := by
  obtain ⟨a0, c0, a1, c1, a2, c2, rfl, rfl, rfl⟩ := h.form
  have HE : Hid (CallEnv w B S (.slice a0 S.nc c0) (.slice a1 S.nl c1) (.slice a2 S.nw c2) (.int .i64 0) (.slice none 0 0) ((w.alloc (.cells #[.slice a0 S.nc c0, .slice a1 S.nl c1, .slice a2 S.nw c2] 28)).alloc (.cells #[.int .i64 0, .slice none 0 0] 60))) := CallEnv.new h _ _ _ _
  have HL : Hid (Laid w) := hL
  clear h hL
  unfold ResRow
  rcases hA with ⟨hz, rfl, rfl⟩ | ⟨hz, ht, rfl, rfl⟩ | ⟨hz, ht, hb, rfl, rfl⟩ | ⟨hz, ht, hb, rfl, rfl, rfl⟩
  · obtain ⟨f, hf⟩ : ∃ f, storeF S = f := ⟨_, rfl⟩
    have HF : Hid (storeF S = f) := hf
    have hfn : (f == 0) = false := beq_eq_false_iff_ne.2 (by rw [← hf]; exact hz)
    rw [hf]
    clear hz hf
    go_enter Tryz.func28, Tryz.ntmps28
    go_wp2_with fail
    refine (implFault_any S _ _ _ B _ HE.out.2.2.1).mono ?_
    rw [HF.out]
    rintro e w1 ⟨rfl, q1⟩
    have HE : Hid (CallEnv w B S (.slice a0 S.nc c0) (.slice a1 S.nl c1) (.slice a2 S.nw c2) (.int .i64 0) (.slice none 0 0) w1) := HE.out.later q1
    obtain ⟨⟨⟨p0, p1, p2⟩, _⟩, ⟨⟨r0, r1⟩, f0, f1⟩, _⟩ := HE.out
    clear q1
    go_wp2
    exact bodyPost_ret (v := .agg #[.int .i64 f, .slice none 0 0]) (by simp [results, Tryz.results28, go_sem, r0, r1]) rfl ⟨none, 0, rfl, (row_none2 _ _ _).1, (row_none2 _ w.heap.size F).2, (HE.out.2.2.2.setCell (Nat.le_succ _) _).setCell (Nat.le_succ _) _⟩
  · have HA : Hid (storeF S = 0) := hz
    by_cases hbf : (0 ≤ fr ∧ fr ≤ 200) ∧ (0 ≤ tto ∧ tto ≤ 200)
    · have HT : Hid (decide (1 ≤ ts ∧ ts ≤ 100000) = false) := decide_eq_false (fun q => ht ⟨hbf.1, hbf.2, q⟩)
      have HF : Hid ((0 ≤ fr ∧ fr ≤ 200) ∧ (0 ≤ tto ∧ tto ≤ 200)) := hbf
      clear hz ht hbf
      go_enter Tryz.func28, Tryz.ntmps28
      go_wp2_with fail
      refine (implFault_any S _ _ _ B _ HE.out.2.2.1).mono ?_
      rw [HA.out]
      rintro e w1 ⟨rfl, q1⟩
      have HE : Hid (CallEnv w B S (.slice a0 S.nc c0) (.slice a1 S.nl c1) (.slice a2 S.nw c2) (.int .i64 0) (.slice none 0 0) w1) := HE.out.later q1
      obtain ⟨⟨⟨p0, p1, p2⟩, _⟩, ⟨⟨r0, r1⟩, f0, f1⟩, _⟩ := HE.out
      clear q1
      go_wp2_with fail
      refine (boundsFit_yes _ _ _ HF.out.1.1 HF.out.1.2 HF.out.2.1 HF.out.2.2).mono ?_
      rintro e w1' ⟨rfl, rfl⟩
      go_wp2_with fail
      refine (isTime_is _ false HT.out _).mono ?_
      rintro e w1' ⟨rfl, rfl⟩
      go_wp2
      exact bodyPost_ret (v := .agg #[.int .i64 3, .slice none 0 0]) (by simp [results, Tryz.results28, go_sem, r0, r1]) rfl ⟨none, 0, rfl, (row_none2 _ _ _).1, (row_none2 _ w.heap.size F).2, (HE.out.2.2.2.setCell (Nat.le_succ _) _).setCell (Nat.le_succ _) _⟩
    · have HF : Hid ((fr < 0 ∨ 200 < fr) ∨ (tto < 0 ∨ 200 < tto)) := by unfold Hid; omega
      clear hz ht hbf
      go_enter Tryz.func28, Tryz.ntmps28
      go_wp2_with fail
      refine (implFault_any S _ _ _ B _ HE.out.2.2.1).mono ?_
      rw [HA.out]
      rintro e w1 ⟨rfl, q1⟩
      have HE : Hid (CallEnv w B S (.slice a0 S.nc c0) (.slice a1 S.nl c1) (.slice a2 S.nw c2) (.int .i64 0) (.slice none 0 0) w1) := HE.out.later q1
      obtain ⟨⟨⟨p0, p1, p2⟩, _⟩, ⟨⟨r0, r1⟩, f0, f1⟩, _⟩ := HE.out
      clear q1
      go_wp2_with fail
      refine (boundsFit_no _ _ _ HF.out).mono ?_
      rintro e w1' ⟨rfl, rfl⟩
      go_wp2
      exact bodyPost_ret (v := .agg #[.int .i64 3, .slice none 0 0]) (by simp [results, Tryz.results28, go_sem, r0, r1]) rfl ⟨none, 0, rfl, (row_none2 _ _ _).1, (row_none2 _ w.heap.size F).2, (HE.out.2.2.2.setCell (Nat.le_succ _) _).setCell (Nat.le_succ _) _⟩
  · have HA : Hid (storeF S = 0) := hz
    have Z := storeF_zero hz
    have HZ : Hid (scan (cellF S.c) S.nc = 0 ∧ (S.nc ≤ 200 ∧ S.nl ≤ 200 ∧ S.nw ≤ 200)) := ⟨Z.2.1, Z.1⟩
    have HT : Hid (scanFits fr tto ts) := ht
    have HB : Hid (anyBlocks S ts fr (tto - fr).toNat) := hb
    clear hz ht hb Z
    go_enter Tryz.func28, Tryz.ntmps28
    go_wp2_with fail
    refine (implFault_any S _ _ _ B _ HE.out.2.2.1).mono ?_
    rw [HA.out]
    rintro e w1 ⟨rfl, q1⟩
    have HE : Hid (CallEnv w B S (.slice a0 S.nc c0) (.slice a1 S.nl c1) (.slice a2 S.nw c2) (.int .i64 0) (.slice none 0 0) w1) := HE.out.later q1
    obtain ⟨⟨⟨p0, p1, p2⟩, _⟩, ⟨⟨r0, r1⟩, f0, f1⟩, _⟩ := HE.out
    clear q1
    go_wp2_with fail
    refine (boundsFit_yes _ _ _ HT.out.1.1 HT.out.1.2 HT.out.2.1.1 HT.out.2.1.2).mono ?_
    rintro e w1' ⟨rfl, rfl⟩
    go_wp2_with fail
    refine (isTime_is _ true (decide_eq_true HT.out.2.2) _).mono ?_
    rintro e w1' ⟨rfl, rfl⟩
    go_wp2_with fail
    refine (columnsOf_any S B _ _ _ _ HE.out.2.2.1 HZ.out.2.1 HZ.out.2.2.1 HZ.out.2.2.2 HZ.out.1).mono ?_
    rintro e w2 ⟨b, g, u1, u2, rfl, HC, q1⟩
    clear p0 p1 p2 r0 r1 f0 f1
    have HE : Hid (CallEnv w B S (.slice a0 S.nc c0) (.slice a1 S.nl c1) (.slice a2 S.nw c2) (.int .i64 0) (.slice none 0 0) w2) := HE.out.later q1
    obtain ⟨⟨⟨p0, p1, p2⟩, _⟩, ⟨⟨r0, r1⟩, f0, f1⟩, _⟩ := HE.out
    clear q1
    have zb : w.heap.size + 1 < w2.heap.size := HE.out.2.1.lt
    go_wp2_with fail
    refine (scan_any S _ b g u1 u2 fr tto ts _ HC HA.out HT.out.1.1 HT.out.1.2 HT.out.2.1.1 HT.out.2.1.2).mono ?_
    rintro e w3 ⟨v, er, rfl, hT, q1⟩
    obtain ⟨rfl, rfl⟩ : v = .slice none 0 0 ∧ er = .iface 136 (.agg #[.int .i64 1]) := by
      rcases hT with ⟨_, h1, h2⟩ | ⟨h1, _⟩
      · exact ⟨h1, h2⟩
      · exact absurd HB.out h1
    clear p0 p1 p2 r0 r1 f0 f1
    have HE : Hid (CallEnv w B S (.slice a0 S.nc c0) (.slice a1 S.nl c1) (.slice a2 S.nw c2) (.int .i64 0) (.slice none 0 0) w3) := HE.out.later q1
    obtain ⟨⟨⟨p0, p1, p2⟩, _⟩, ⟨⟨r0, r1⟩, f0, f1⟩, _⟩ := HE.out
    clear q1
    clear HC hT
    go_wp2_with fail
    refine (refusalCode_hit 1 7 (Or.inr (Or.inl ⟨rfl, rfl⟩)) _ (HL.out.later HE.out.2.2.2)).mono ?_
    rintro e w4 ⟨rfl, q1⟩
    clear p0 p1 p2 r0 r1 f0 f1
    have HE : Hid (CallEnv w B S (.slice a0 S.nc c0) (.slice a1 S.nl c1) (.slice a2 S.nw c2) (.int .i64 0) (.slice none 0 0) w4) := HE.out.later q1
    obtain ⟨⟨⟨p0, p1, p2⟩, _⟩, ⟨⟨r0, r1⟩, f0, f1⟩, _⟩ := HE.out
    clear q1
    go_wp2
    exact bodyPost_ret (v := .agg #[.int .i64 7, .slice none 0 0]) (by simp [results, Tryz.results28, go_sem, r0, r1]) rfl ⟨none, 0, rfl, (row_none2 _ _ _).1, (row_none2 _ w.heap.size F).2, (HE.out.2.2.2.setCell (Nat.le_succ _) _).setCell (Nat.le_succ _) _⟩
  · have HA : Hid (storeF S = 0) := hz
    have Z := storeF_zero hz
    have HZ : Hid (scan (cellF S.c) S.nc = 0 ∧ (S.nc ≤ 200 ∧ S.nl ≤ 200 ∧ S.nw ≤ 200)) := ⟨Z.2.1, Z.1⟩
    have HT : Hid (scanFits fr tto ts) := ht
    have HB : Hid (¬ anyBlocks S ts fr (tto - fr).toNat) := hb
    clear hz ht hb Z
    go_enter Tryz.func28, Tryz.ntmps28
    go_wp2_with fail
    refine (implFault_any S _ _ _ B _ HE.out.2.2.1).mono ?_
    rw [HA.out]
    rintro e w1 ⟨rfl, q1⟩
    have HE : Hid (CallEnv w B S (.slice a0 S.nc c0) (.slice a1 S.nl c1) (.slice a2 S.nw c2) (.int .i64 0) (.slice none 0 0) w1) := HE.out.later q1
    obtain ⟨⟨⟨p0, p1, p2⟩, _⟩, ⟨⟨r0, r1⟩, f0, f1⟩, _⟩ := HE.out
    clear q1
    go_wp2_with fail
    refine (boundsFit_yes _ _ _ HT.out.1.1 HT.out.1.2 HT.out.2.1.1 HT.out.2.1.2).mono ?_
    rintro e w1' ⟨rfl, rfl⟩
    go_wp2_with fail
    refine (isTime_is _ true (decide_eq_true HT.out.2.2) _).mono ?_
    rintro e w1' ⟨rfl, rfl⟩
    go_wp2_with fail
    refine (columnsOf_any S B _ _ _ _ HE.out.2.2.1 HZ.out.2.1 HZ.out.2.2.1 HZ.out.2.2.2 HZ.out.1).mono ?_
    rintro e w2 ⟨b, g, u1, u2, rfl, HC, q1⟩
    clear p0 p1 p2 r0 r1 f0 f1
    have HE : Hid (CallEnv w B S (.slice a0 S.nc c0) (.slice a1 S.nl c1) (.slice a2 S.nw c2) (.int .i64 0) (.slice none 0 0) w2) := HE.out.later q1
    obtain ⟨⟨⟨p0, p1, p2⟩, _⟩, ⟨⟨r0, r1⟩, f0, f1⟩, _⟩ := HE.out
    clear q1
    have zb : w.heap.size + 1 < w2.heap.size := HE.out.2.1.lt
    go_wp2_with fail
    refine (scan_any S _ b g u1 u2 fr tto ts _ HC HA.out HT.out.1.1 HT.out.1.2 HT.out.2.1.1 HT.out.2.1.2).mono ?_
    rintro e w3 ⟨v, er, rfl, hT, q1⟩
    obtain ⟨rfl, hO⟩ : er = .nilIface ∧ OwnL w3 w2.heap.size 68 v (scanN S ts fr (tto - fr).toNat) (scanL S ts fr (tto - fr).toNat) := by
      rcases hT with ⟨h1, _⟩ | ⟨_, h1, h2⟩
      · exact absurd h1 HB.out
      · exact ⟨h1, h2⟩
    obtain ⟨ao, cp, rfl⟩ := hO.form
    have hR := (hO.own (scanL_length _ _ _ _)).row
    clear p0 p1 p2 r0 r1 f0 f1
    have HE : Hid (CallEnv w B S (.slice a0 S.nc c0) (.slice a1 S.nl c1) (.slice a2 S.nw c2) (.int .i64 0) (.slice none 0 0) w3) := HE.out.later q1
    obtain ⟨⟨⟨p0, p1, p2⟩, _⟩, ⟨⟨r0, r1⟩, f0, f1⟩, _⟩ := HE.out
    clear q1
    clear HC hT
    go_wp2_with fail
    refine (refusalCode_nil _).mono ?_
    rintro e w4 ⟨rfl, q1⟩
    have HO : Hid (Row w4 (w.heap.size + 2) 2 (scanN S ts fr (tto - fr).toNat) (fun p => (scanL S ts fr (tto - fr).toNat).getD p 0) (.slice ao (scanN S ts fr (tto - fr).toNat) cp) ∧ Free w4 (scanN S ts fr (tto - fr).toNat * 2) (.slice ao (scanN S ts fr (tto - fr).toNat) cp)) := ⟨(hR.1.later q1).mono (by omega), hR.2.ofRow hR.1 q1⟩
    clear p0 p1 p2 r0 r1 f0 f1
    have HE : Hid (CallEnv w B S (.slice a0 S.nc c0) (.slice a1 S.nl c1) (.slice a2 S.nw c2) (.int .i64 0) (.slice none 0 0) w4) := HE.out.later q1
    obtain ⟨⟨⟨p0, p1, p2⟩, _⟩, ⟨⟨r0, r1⟩, f0, f1⟩, _⟩ := HE.out
    clear q1
    clear hO hR
    go_wp2
    exact bodyPost_ret (v := .agg #[.int .i64 0, .slice ao (scanN S ts fr (tto - fr).toNat) cp]) (by simp [results, Tryz.results28, go_sem, r0, r1]) rfl ⟨ao, cp, rfl, ((HO.out.1.far (Or.inl (by simp)) _).far (Or.inl (by simp)) _).mono (by omega), (HO.out.2.far _ _).far _ _, (HE.out.2.2.2.setCell (Nat.le_succ _) _).setCell (Nat.le_succ _) _⟩
end Go.Proofs.YtiikncbohnhcaaaGreatDoor

namespace Go.Proofs.YtiikncbohnhcaaaGreatDoor
open Go.RowKit

theorem Blk2.set1 {x : World} {b : Nat} {a0 a1 : Value} (h : Blk2 x b a0 a1) (u : Value) : Blk2 (x.setCell ⟨b, 1, none⟩ u) b a0 u := by
  obtain ⟨⟨h0, h1⟩, f0, f1⟩ := h
  exact ⟨⟨(World.cell?_setCell_other _ _ _ _ (by simp)).trans h0, World.cell?_setCell_same _ _ _ h1⟩, by simpa using f0, by simpa using f1⟩
theorem Blk2.setFar {x : World} {b : Nat} {a0 a1 : Value} (h : Blk2 x b a0 a1) {p : Addr} (hp : b ≠ p.block) (u : Value) : Blk2 (x.setCell p u) b a0 a1 := h.kept (Below.heap_setCell x p u b hp)
theorem OwnL.far {w : World} {B : Nat} {e : TypeId} {v : Value} {n : Nat} {L : List Int} (h : OwnL w B e v n L) {a : Addr} (ha : a.block < B) (u : Value) : OwnL (w.setCell a u) B e v n L := by
  refine ⟨h.1, ?_⟩
  rcases h.2 with q | ⟨g, cap, cur, rfl, hg, hw, r⟩
  · exact Or.inl q
  · exact Or.inr ⟨g, cap, cur, rfl, hg, (Below.heap_setCell w a u g (by omega)).trans hw, r⟩
/-- What the model's loop stands on: its copy of the store, its result, and what it has found (block ob). -/
def ScanEnv (w : World) (S : Sto) (v0 v1 v2 : Value) (ts fr : Int) (ob : Nat) (v : Value) (m : Nat) (x : World) : Prop :=
  Blk3 x w.heap.size v0 v1 v2 ∧ Blk2 x (w.heap.size + 1) (.int .i64 0) (.slice none 0 0) ∧ Blk2 x ob (.int .i64 0) v ∧ OwnL x (ob + 1) 68 v (scanN S ts fr m) (scanL S ts fr m) ∧ Below w.heap.size w x
theorem ScanEnv.later {w x x' : World} {S : Sto} {v0 v1 v2 : Value} {ts fr : Int} {ob : Nat} {v : Value} {m : Nat} (h : ScanEnv w S v0 v1 v2 ts fr ob v m x) (hb : Below x.heap.size x x') : ScanEnv w S v0 v1 v2 ts fr ob v m x' :=
  ⟨h.1.later hb, h.2.1.later hb, h.2.2.1.later hb, h.2.2.2.1.later hb, h.2.2.2.2.trans (hb.mono h.2.2.2.2.size)⟩
set_option maxRecDepth 100000 in
set_option maxHeartbeats 8000000 in
theorem specScanAt_is (S : Sto) (v0 v1 v2 : Value) (fr tto ts c : Int) (n : Nat) (F : Nat → Int) (B : Nat) (w : World) (h : St w B S v0 v1 v2) (hA : ScanAns S fr tto ts c n F) :
    Calls Tryz.prog 29 #[.agg #[v0, v1, v2], .int .i64 fr, .int .i64 tto, .int .i64 ts] w (ResRow 2 w c n F) := by
  obtain ⟨a0, c0, a1, c1, a2, c2, rfl, rfl, rfl⟩ := h.form
  have HE : Hid (CallEnv w B S (.slice a0 S.nc c0) (.slice a1 S.nl c1) (.slice a2 S.nw c2) (.int .i64 0) (.slice none 0 0) ((w.alloc (.cells #[.slice a0 S.nc c0, .slice a1 S.nl c1, .slice a2 S.nw c2] 28)).alloc (.cells #[.int .i64 0, .slice none 0 0] 60))) := CallEnv.new h _ _ _ _
  have H0 : Hid (St w B S (.slice a0 S.nc c0) (.slice a1 S.nl c1) (.slice a2 S.nw c2)) := h
  clear h
  unfold ResRow
  by_cases hz : storeF S = 0
  case neg =>
    obtain ⟨rfl, rfl⟩ : c = storeF S ∧ n = 0 := by
      rcases hA with ⟨_, h1, h2⟩ | ⟨h, _⟩ | ⟨h, _⟩ | ⟨h, _⟩
      · exact ⟨h1, h2⟩
      all_goals exact absurd h hz
    obtain ⟨f, hf⟩ : ∃ f, storeF S = f := ⟨_, rfl⟩
    have HF : Hid (storeF S = f) := hf
    have hfn : (f == 0) = false := beq_eq_false_iff_ne.2 (by rw [← hf]; exact hz)
    rw [hf]
    clear hz hf hA
    go_enter Tryz.func29, Tryz.ntmps29
    go_wp2_with fail
    refine (l2Fault_any S w.heap.size _ _ _ _ ⟨HE.out.1.1, HE.out.2.2.1.mono (Nat.zero_le _)⟩).mono ?_
    rw [HF.out]
    rintro e w1 ⟨rfl, q1⟩
    have HE : Hid (CallEnv w B S (.slice a0 S.nc c0) (.slice a1 S.nl c1) (.slice a2 S.nw c2) (.int .i64 0) (.slice none 0 0) w1) := HE.out.later q1
    obtain ⟨⟨⟨p0, p1, p2⟩, _⟩, ⟨⟨r0, r1⟩, f0, f1⟩, _⟩ := HE.out
    clear q1
    go_wp2
    exact bodyPost_ret (v := .agg #[.int .i64 f, .slice none 0 0]) (by simp [results, Tryz.results29, go_sem, r0, r1]) rfl ⟨none, 0, rfl, (row_none2 _ _ _).1, (row_none2 _ w.heap.size F).2, (HE.out.2.2.2.setCell (Nat.le_succ _) _).setCell (Nat.le_succ _) _⟩
  have HA : Hid (storeF S = 0) := hz
  by_cases hf : scanFits fr tto ts
  case neg =>
    obtain ⟨rfl, rfl⟩ : c = 3 ∧ n = 0 := by
      rcases hA with ⟨h, _⟩ | ⟨_, _, h1, h2⟩ | ⟨_, h, _⟩ | ⟨_, h, _⟩
      · exact absurd hz h
      · exact ⟨h1, h2⟩
      · exact absurd h hf
      · exact absurd h hf
    clear hA hz
    by_cases h1 : 0 ≤ fr ∧ fr ≤ 200
    case neg =>
      have H1 : Hid (decide (0 ≤ fr ∧ fr ≤ 200) = false) := decide_eq_false h1
      clear hf h1
      go_enter Tryz.func29, Tryz.ntmps29
      go_wp2_with fail
      refine (l2Fault_any S w.heap.size _ _ _ _ ⟨HE.out.1.1, HE.out.2.2.1.mono (Nat.zero_le _)⟩).mono ?_
      rw [HA.out]
      rintro e w1 ⟨rfl, q1⟩
      have HE : Hid (CallEnv w B S (.slice a0 S.nc c0) (.slice a1 S.nl c1) (.slice a2 S.nw c2) (.int .i64 0) (.slice none 0 0) w1) := HE.out.later q1
      obtain ⟨⟨⟨p0, p1, p2⟩, _⟩, ⟨⟨r0, r1⟩, f0, f1⟩, _⟩ := HE.out
      clear q1
      go_wp2_with fail
      refine (l1In_is _ _ _ false H1.out _).mono ?_
      rintro e w1' ⟨rfl, rfl⟩
      go_wp2
      exact bodyPost_ret (v := .agg #[.int .i64 3, .slice none 0 0]) (by simp [results, Tryz.results29, go_sem, r0, r1]) rfl ⟨none, 0, rfl, (row_none2 _ _ _).1, (row_none2 _ w.heap.size F).2, (HE.out.2.2.2.setCell (Nat.le_succ _) _).setCell (Nat.le_succ _) _⟩
    have H1 : Hid (decide (0 ≤ fr ∧ fr ≤ 200) = true) := decide_eq_true h1
    by_cases h2 : 0 ≤ tto ∧ tto ≤ 200
    case neg =>
      have H2 : Hid (decide (0 ≤ tto ∧ tto ≤ 200) = false) := decide_eq_false h2
      clear hf h1 h2
      go_enter Tryz.func29, Tryz.ntmps29
      go_wp2_with fail
      refine (l2Fault_any S w.heap.size _ _ _ _ ⟨HE.out.1.1, HE.out.2.2.1.mono (Nat.zero_le _)⟩).mono ?_
      rw [HA.out]
      rintro e w1 ⟨rfl, q1⟩
      have HE : Hid (CallEnv w B S (.slice a0 S.nc c0) (.slice a1 S.nl c1) (.slice a2 S.nw c2) (.int .i64 0) (.slice none 0 0) w1) := HE.out.later q1
      obtain ⟨⟨⟨p0, p1, p2⟩, _⟩, ⟨⟨r0, r1⟩, f0, f1⟩, _⟩ := HE.out
      clear q1
      go_wp2_with fail
      refine (l1In_is _ _ _ true H1.out _).mono ?_
      rintro e w1' ⟨rfl, rfl⟩
      go_wp2_with fail
      refine (l1In_is _ _ _ false H2.out _).mono ?_
      rintro e w1' ⟨rfl, rfl⟩
      go_wp2
      exact bodyPost_ret (v := .agg #[.int .i64 3, .slice none 0 0]) (by simp [results, Tryz.results29, go_sem, r0, r1]) rfl ⟨none, 0, rfl, (row_none2 _ _ _).1, (row_none2 _ w.heap.size F).2, (HE.out.2.2.2.setCell (Nat.le_succ _) _).setCell (Nat.le_succ _) _⟩
    have H2 : Hid (decide (0 ≤ tto ∧ tto ≤ 200) = true) := decide_eq_true h2
    have H3 : Hid (decide (1 ≤ ts ∧ ts ≤ 100000) = false) := decide_eq_false (fun q => hf ⟨h1, h2, q⟩)
    clear hf h1 h2
    go_enter Tryz.func29, Tryz.ntmps29
    go_wp2_with fail
    refine (l2Fault_any S w.heap.size _ _ _ _ ⟨HE.out.1.1, HE.out.2.2.1.mono (Nat.zero_le _)⟩).mono ?_
    rw [HA.out]
    rintro e w1 ⟨rfl, q1⟩
    have HE : Hid (CallEnv w B S (.slice a0 S.nc c0) (.slice a1 S.nl c1) (.slice a2 S.nw c2) (.int .i64 0) (.slice none 0 0) w1) := HE.out.later q1
    obtain ⟨⟨⟨p0, p1, p2⟩, _⟩, ⟨⟨r0, r1⟩, f0, f1⟩, _⟩ := HE.out
    clear q1
    go_wp2_with fail
    refine (l1In_is _ _ _ true H1.out _).mono ?_
    rintro e w1' ⟨rfl, rfl⟩
    go_wp2_with fail
    refine (l1In_is _ _ _ true H2.out _).mono ?_
    rintro e w1' ⟨rfl, rfl⟩
    go_wp2_with fail
    refine (l2Ts_is _ false H3.out _).mono ?_
    rintro e w1' ⟨rfl, rfl⟩
    go_wp2
    exact bodyPost_ret (v := .agg #[.int .i64 3, .slice none 0 0]) (by simp [results, Tryz.results29, go_sem, r0, r1]) rfl ⟨none, 0, rfl, (row_none2 _ _ _).1, (row_none2 _ w.heap.size F).2, (HE.out.2.2.2.setCell (Nat.le_succ _) _).setCell (Nat.le_succ _) _⟩
  have HC : Hid ((anyBlocks S ts fr (tto - fr).toNat ∧ c = 7 ∧ n = 0) ∨ (¬ anyBlocks S ts fr (tto - fr).toNat ∧ c = 0 ∧ n = scanN S ts fr (tto - fr).toNat ∧ F = fun p => (scanL S ts fr (tto - fr).toNat).getD p 0)) := by
    rcases hA with ⟨h, _⟩ | ⟨_, h, _⟩ | ⟨_, _, h⟩ | ⟨_, _, h⟩
    · exact absurd hz h
    · exact absurd hf h
    · exact Or.inl h
    · exact Or.inr h
  have Z := storeF_zero hz
  have HZ : Hid (scan (cellF S.c) S.nc = 0 ∧ (S.nc ≤ 200 ∧ S.nl ≤ 200 ∧ S.nw ≤ 200)) := ⟨Z.2.1, Z.1⟩
  have HN : Hid (needs S) := Z.2.2.2.2.1
  have H1 : Hid (decide (0 ≤ fr ∧ fr ≤ 200) = true) := decide_eq_true hf.1
  have H2 : Hid (decide (0 ≤ tto ∧ tto ≤ 200) = true) := decide_eq_true hf.2.1
  have H3 : Hid (decide (1 ≤ ts ∧ ts ≤ 100000) = true) := decide_eq_true hf.2.2
  have ha := hf.1
  have hb := hf.2.1
  clear hA hz hf Z
  obtain ⟨i0, hi, hz0, hz1, hz2⟩ := info_parts info_Pair
  go_enter Tryz.func29, Tryz.ntmps29
  go_wp2_with fail
  refine (l2Fault_any S w.heap.size _ _ _ _ ⟨HE.out.1.1, HE.out.2.2.1.mono (Nat.zero_le _)⟩).mono ?_
  rw [HA.out]
  rintro e w1 ⟨rfl, q1⟩
  have HE : Hid (CallEnv w B S (.slice a0 S.nc c0) (.slice a1 S.nl c1) (.slice a2 S.nw c2) (.int .i64 0) (.slice none 0 0) w1) := HE.out.later q1
  obtain ⟨⟨⟨p0, p1, p2⟩, _⟩, ⟨⟨r0, r1⟩, f0, f1⟩, _⟩ := HE.out
  clear q1
  go_wp2_with fail
  refine (l1In_is _ _ _ true H1.out _).mono ?_
  rintro e w1' ⟨rfl, rfl⟩
  go_wp2_with fail
  refine (l1In_is _ _ _ true H2.out _).mono ?_
  rintro e w1' ⟨rfl, rfl⟩
  go_wp2_with fail
  refine (l2Ts_is _ true H3.out _).mono ?_
  rintro e w2 ⟨rfl, rfl⟩
  have HS0 : Hid (ScanEnv w S (.slice a0 S.nc c0) (.slice a1 S.nl c1) (.slice a2 S.nw c2) ts fr w2.heap.size (.slice none 0 0) 0 (w2.alloc (.cells #[.int .i64 0, .slice none 0 0] 60))) := ⟨HE.out.1.alloc _, HE.out.2.1.alloc _, Blk2.new w2 _ _ _, OwnL.nil _ _ _, HE.out.2.2.2.alloc HE.out.2.2.2.size _⟩
  have zb : Hid (w.heap.size + 1 < w2.heap.size) := HE.out.2.1.lt
  clear p0 p1 p2 r0 r1 f0 f1 HE
  go_wp2
  go_loopw [11] (fun k wr => ∃ (m : Nat) (ao : Option Addr) (cp : Nat), k = .int .i64 (fr + m) ∧ m ≤ (tto - fr).toNat ∧ Hid (ScanEnv w S (.slice a0 S.nc c0) (.slice a1 S.nl c1) (.slice a2 S.nw c2) ts fr w2.heap.size (.slice ao (scanN S ts fr m) cp) m wr) ∧ Hid (∀ q, q < m → ¬ blocks S.l S.nl (fr + q) ts)) (fun k _ => (tto - intOf k).toNat)
  case atStart => exact ⟨0, none, 0, by go_num, by omega, HS0, fun q hq => absurd hq (Nat.not_lt_zero q)⟩
  case round =>
    clear HS0
    obtain ⟨m, ao, cp, rfl, hm, HS, HQ⟩ := hrel
    have HLI : Hid (Lies wr w.heap.size S (.slice a0 S.nc c0) (.slice a1 S.nl c1) (.slice a2 S.nw c2)) := ⟨HS.out.1.1, (H0.out.later HS.out.2.2.2.2).mono (Nat.zero_le _)⟩
    by_cases hlt : fr + m < tto
    case neg =>
      have em : (tto - fr).toNat = m := by omega
      rcases HC.out with ⟨⟨q, hq, hk⟩, _⟩ | ⟨_, rfl, rfl, rfl⟩
      · exact absurd hk (HQ.out q (by omega))
      have hS2 := HS.out
      rw [← em] at hS2
      have hR := (hS2.2.2.2.1.own (scanL_length _ _ _ _)).row
      have HR : Hid (Row wr (w.heap.size + 2) 2 (scanN S ts fr (tto - fr).toNat) (fun p => (scanL S ts fr (tto - fr).toNat).getD p 0) (.slice ao (scanN S ts fr (tto - fr).toNat) cp) ∧ Free wr (scanN S ts fr (tto - fr).toNat * 2) (.slice ao (scanN S ts fr (tto - fr).toNat) cp)) := ⟨hR.1.mono (by have := zb.out; omega), hR.2⟩
      obtain ⟨⟨r0, r1⟩, f0, f1⟩ := hS2.2.1
      obtain ⟨⟨s0, s1⟩, _⟩ := hS2.2.2.1
      have hne : ¬ w2.heap.size = w.heap.size + 1 := by have := zb.out; omega
      have HB : Hid (Below w.heap.size w wr) := hS2.2.2.2.2
      clear hR HS HQ HC em hS2
      go_wp2
      exact bodyPost_ret (v := .agg #[.int .i64 0, .slice ao (scanN S ts fr (tto - fr).toNat) cp]) (by simp [results, Tryz.results29, go_sem, r0, r1]) rfl ⟨ao, cp, rfl, ((HR.out.1.far (Or.inl (by simp)) _).far (Or.inl (by simp)) _).mono (by omega), (HR.out.2.far _ _).far _ _, (HB.out.setCell (Nat.le_succ _) _).setCell (Nat.le_succ _) _⟩
    obtain ⟨key, hkey⟩ : ∃ key, fr + (m : Int) = key := ⟨_, rfl⟩
    have hk0 : 0 ≤ key := by omega
    have hk1 : key ≤ 200 := by omega
    by_cases hbk : blocks S.l S.nl key ts
    · obtain ⟨rfl, rfl⟩ : c = 7 ∧ n = 0 := by
        rcases HC.out with ⟨_, h1, h2⟩ | ⟨h, _⟩
        · exact ⟨h1, h2⟩
        · exact absurd ⟨m, by omega, by rw [hkey]; exact hbk⟩ h
      have HK : Hid (blocks S.l S.nl key ts) := hbk
      obtain ⟨⟨r0, r1⟩, f0, f1⟩ := HS.out.2.1
      have HB : Hid (Below w.heap.size w wr) := HS.out.2.2.2.2
      rw [hkey]
      rw [hkey] at hlt
      clear hbk HQ HC HS
      go_wp2_with fail
      refine (l3Blocked_is S w.heap.size _ _ _ key ts _ HLI.out HZ.out.2.2.1 true ⟨fun _ => HK.out, fun _ => rfl⟩).mono ?_
      rintro e w3 ⟨rfl, rfl⟩
      go_wp2
      exact bodyPost_ret (v := .agg #[.int .i64 7, .slice none 0 0]) (by simp [results, Tryz.results29, go_sem, r0, r1]) rfl ⟨none, 0, rfl, (row_none2 _ _ _).1, (row_none2 _ w.heap.size F).2, (HB.out.setCell (Nat.le_succ _) _).setCell (Nat.le_succ _) _⟩
    have HNB : Hid (∀ q, q < m + 1 → ¬ blocks S.l S.nl (fr + q) ts) := all_next HQ.out (by rw [hkey]; exact hbk)
    have HK : Hid (¬ blocks S.l S.nl key ts) := hbk
    have hwrap : IntKind.i64.wrap (key + 1) = key + 1 := by
      simp [IntKind.wrap, IntKind.bits, IntKind.signed]
      omega
    rcases reads_or HN.out key ts with hno | ⟨i, j, hr⟩
    · have hrv := rv_none hno
      have E : Hid (ScanEnv w S (.slice a0 S.nc c0) (.slice a1 S.nl c1) (.slice a2 S.nw c2) ts fr w2.heap.size (.slice ao (scanN S ts fr (m + 1)) cp) (m + 1) wr) := by
        have h1 := scanL_no (a := fr) (m := m) (by rw [hkey]; exact hrv)
        have h2 := HS.out
        unfold Hid ScanEnv
        rw [h1.1, h1.2]
        exact h2
      have HNo : Hid (∀ i, lastW S.k S.nw key ts i → S.k (i * 4 + 3) ≠ 1) := hno
      rw [hkey]
      rw [hkey] at hlt
      clear hbk HS HQ hno hrv
      go_wp2_with fail
      refine (l3Blocked_is S w.heap.size _ _ _ key ts _ HLI.out HZ.out.2.2.1 false ⟨fun q => absurd q Bool.false_ne_true, fun q => absurd q HK.out⟩).mono ?_
      rintro e w3 ⟨rfl, rfl⟩
      go_wp2_with fail
      refine (l3Value_none S w.heap.size _ _ _ key ts _ HLI.out HZ.out.2.2.2 HNo.out).mono ?_
      rintro e w4 ⟨rfl, q1⟩
      have E1 : Hid (ScanEnv w S (.slice a0 S.nc c0) (.slice a1 S.nl c1) (.slice a2 S.nw c2) ts fr w2.heap.size (.slice ao (scanN S ts fr (m + 1)) cp) (m + 1) w4) := E.out.later q1
      clear q1 E
      go_wp2
      go_roundw
      case rel => exact ⟨m + 1, ao, cp, by rw [← hkey]; go_num, by omega, E1, HNB⟩
      case measure => simp [intOf]; omega
    · have hrv := rv_some HZ.out.1 hr
      obtain ⟨v, hv⟩ : ∃ v, S.c (j * 3 + 2) = v := ⟨_, rfl⟩
      rw [hv] at hrv
      have HV : Hid (S.c (j * 3 + 2) = v) := hv
      have HL : Hid (scanL S ts fr (m + 1) = scanL S ts fr m ++ [key, v] ∧ scanN S ts fr (m + 1) = scanN S ts fr m + 1) := by
        have := scanL_yes (a := fr) (m := m) (by rw [hkey]; exact hrv)
        rw [hkey] at this
        exact this
      have HR : Hid (reads S key ts i j) := hr
      have hnle := scanN_le S ts fr m
      obtain ⟨nn, hnn⟩ : ∃ nn, scanN S ts fr m = nn := ⟨_, rfl⟩
      rw [hnn] at hnle HS
      have HNN : Hid (scanN S ts fr m = nn) := hnn
      rw [hkey]
      rw [hkey] at hlt
      clear hbk HQ hr hrv hv hnn
      go_wp2_with fail
      refine (l3Blocked_is S w.heap.size _ _ _ key ts _ HLI.out HZ.out.2.2.1 false ⟨fun q => absurd q Bool.false_ne_true, fun q => absurd q HK.out⟩).mono ?_
      rintro e w3 ⟨rfl, rfl⟩
      go_wp2_with fail
      refine (l3Value_some S w.heap.size _ _ _ key ts i j _ HLI.out HZ.out.2.1 HZ.out.2.2.2 HZ.out.1 HR.out).mono ?_
      rw [HV.out]
      rintro e w4 ⟨rfl, q1⟩
      have E4 : Hid (ScanEnv w S (.slice a0 S.nc c0) (.slice a1 S.nl c1) (.slice a2 S.nw c2) ts fr w2.heap.size (.slice ao nn cp) m w4) := HS.out.later q1
      have s1 := E4.out.2.2.1.1.2
      have zs := E4.out.2.2.1.lt
      have hown := E4.out.2.2.2.1.later (below_alloc w4 (.cells #[.int .i64 key, .int .i64 v] 68))
      rw [HNN.out] at hown
      clear q1 HS
      go_wp2_with (at_builtin; refine wpList_append_own _ rfl _ _ 58 rfl (w2.heap.size + 1) 68 i0 (.agg #[.int .i64 0, .int .i64 0]) 2 16 Tryz.underlying58 hi hz0 hz1 hz2 rfl (by decide) _ _ _ rfl hown ⟨_, 0, none⟩ 1 1 [.int .i64 key, .int .i64 v] rfl rfl ?c1 ?c2 ?c3 ?c4 ?c5 ?_)
      case c1 =>
        intro q u hq
        match q, hq with
        | 0, hq => simp at hq; subst hq; simp [Addr.add]
        | 1, hq => simp at hq; subst hq; simp [Addr.add]
      case c2 =>
        intro u hu
        simp at hu
        rcases hu with rfl | rfl <;> rfl
      case c3 => unfold maxLen; omega
      case c4 => omega
      case c5 => simp; omega
      intro v' w5 ho hg5 _
      have EA := E4.out.later (below_alloc w4 (.cells #[.int .i64 key, .int .i64 v] 68))
      have hrow : ∀ bb, (Value.slice ao nn cp).ownBlock = some bb → w2.heap.size + 1 ≤ bb := by
        intro bb hbb
        rcases hown.2 with ⟨e, _⟩ | ⟨gg, _, _, e, hge, _⟩
        · rw [e] at hbb; simp [Value.ownBlock] at hbb
        · rw [e] at hbb; simp [Value.ownBlock] at hbb; omega
      have hkeep : ∀ k, k < (w4.alloc (.cells #[.int .i64 key, .int .i64 v] 68)).heap.size → k ≤ w2.heap.size → w5.heap[k]? = (w4.alloc (.cells #[.int .i64 key, .int .i64 v] 68)).heap[k]? := fun k h1 h2 => hg5.block k h1 (fun e => by have := hrow k e.symm; omega)
      have F1 : Hid (Blk3 w5 w.heap.size (.slice a0 S.nc c0) (.slice a1 S.nl c1) (.slice a2 S.nw c2) ∧ Blk2 w5 (w.heap.size + 1) (.int .i64 0) (.slice none 0 0) ∧ Blk2 w5 w2.heap.size (.int .i64 0) (.slice ao nn cp)) := ⟨EA.1.kept (hkeep _ EA.1.lt (by have := zb.out; omega)), EA.2.1.kept (hkeep _ EA.2.1.lt (by have := zb.out; omega)), EA.2.2.1.kept (hkeep _ EA.2.2.1.lt (Nat.le_refl _))⟩
      have F2 : Hid (OwnL w5 (w2.heap.size + 1) 68 v' (scanN S ts fr (m + 1)) (scanL S ts fr (m + 1))) := by
        unfold Hid OwnL
        rw [HL.out.1, HL.out.2, HNN.out, List.map_append]
        exact ho
      have F3 : Hid (Below w.heap.size w w5) := below_grownBy EA.2.2.2.2 EA.2.2.2.2.size (fun bb hbb => by have := hrow bb hbb; have := zb.out; omega) hg5
      obtain ⟨ao', cp', rfl⟩ := F2.out.form
      have HS5 : Hid (ScanEnv w S (.slice a0 S.nc c0) (.slice a1 S.nl c1) (.slice a2 S.nw c2) ts fr w2.heap.size (.slice ao' (scanN S ts fr (m + 1)) cp') (m + 1) (w5.setCell ⟨w2.heap.size, 1, none⟩ (.slice ao' (scanN S ts fr (m + 1)) cp'))) :=
        ⟨F1.out.1.setFar (by simp; have := zb.out; omega) _, F1.out.2.1.setFar (by simp; have := zb.out; omega) _, F1.out.2.2.set1 _, F2.out.far (by simp) _, F3.out.setCell (by simp; have := zb.out; omega) _⟩
      have t1 := F1.out.2.2.1.2
      have g1 := F1.out.2.2.2.2
      have zt := F1.out.2.2.lt
      clear ho hg5 hown EA hrow hkeep F1 F2 F3 E4 s1 zs
      go_wp2
      go_roundw
      case rel => exact ⟨m + 1, ao', cp', by rw [← hkey]; go_num, by omega, HS5, HNB⟩
      case measure => simp [intOf]; omega
end Go.Proofs.YtiikncbohnhcaaaGreatDoor

namespace Go.Proofs.YtiikncbohnhcaaaGreatDoor
open Go.RowKit

/-- Of the n numbers from lo on those that stand for something. -/
def kl (lo : Int) : Nat → List Int
  | 0 => []
  | n + 1 => kl lo n ++ (if faultOf (lo + n) = 0 then [lo + n] else [])
theorem kl_le (lo : Int) : ∀ n, (kl lo n).length ≤ n
  | 0 => Nat.le_refl 0
  | n + 1 => by
    have := kl_le lo n
    unfold kl
    split <;> simp <;> omega
theorem kl_yes {lo : Int} {n : Nat} (h : faultOf (lo + n) = 0) : kl lo (n + 1) = kl lo n ++ [lo + n] := by rw [kl, if_pos h]
theorem kl_no {lo : Int} {n : Nat} (h : ¬ faultOf (lo + n) = 0) : kl lo (n + 1) = kl lo n := by rw [kl, if_neg h, List.append_nil]
set_option maxHeartbeats 400000 in
theorem keysFit_yes (a b : Int) (w : World) (ha : 0 ≤ a) (ha2 : a ≤ 200) (hb : 0 ≤ b) (hb2 : b ≤ 200) :
    Calls Tryz.prog 76 #[.int .i64 a, .int .i64 b] w fun e w' => e = .returned (.bool true) ∧ w' = w := by
  have d2 : decide (b ≤ 200) = true := decide_eq_true hb2
  go_enter Tryz.func76, Tryz.ntmps76
  go_wp2
  go_ret
  exact ⟨rfl, rfl⟩
set_option maxHeartbeats 1000000 in
theorem implKeysIn_ok (a b : Int) (w : World) (ha : 0 ≤ a) (ha2 : a ≤ 200) (hb : 0 ≤ b) (hb2 : b ≤ 200) :
    Calls Tryz.prog 30 #[.int .i64 a, .int .i64 b] w fun e w' => ∃ v, e = .returned (.agg #[.int .i64 0, v]) ∧ Ints w' w.heap.size v (kl a (b - a).toNat) ∧ Below w.heap.size w w' := by
  obtain ⟨i0, hi, hz0, hz1, hz2⟩ := info_parts info_i64
  go_enter Tryz.func30, Tryz.ntmps30
  go_wp2_with fail
  refine (keysFit_yes _ _ _ ha ha2 hb hb2).mono ?_
  rintro e w' ⟨rfl, rfl⟩
  go_wp2_with fail
  go_loopw [5, 6] (fun v k wr => ∃ n : Nat, k = .int .i64 (a + n) ∧ n ≤ (b - a).toNat ∧ wr.ownsRow (w.heap.size + 1) 2 1 v (kl a n).length ((kl a n).map (Value.int .i64)) ∧ Below (w.heap.size + 1) (w.alloc (.cells #[.int .i64 0, .slice none 0 0] 64)) wr) (fun _ k _ => (b - intOf k).toNat)
  case atStart => exact ⟨0, by go_num, by omega, World.ownsRow_nil _ _ _ _, Below.refl _ _⟩
  case round =>
    obtain ⟨n, rfl, hn, hown, hbl⟩ := hrel
    have hz : w.heap.size < wr.heap.size := by have := hbl.size; simp at this; omega
    have hc0 : wr.cell? ⟨w.heap.size, 0, none⟩ = some (.int .i64 0) := by rw [hbl.cell (by simp)]; exact World.cell?_alloc_mark w _ _ _ 0
    have hc1 : wr.cell? ⟨w.heap.size, 1, none⟩ = some (.slice none 0 0) := by rw [hbl.cell (by simp)]; exact World.cell?_alloc_mark w _ _ _ 1
    have hf0 : wr.frozen? ⟨w.heap.size, 0, none⟩ = false := by rw [hbl.frozen (by simp)]; simp
    have hf1 : wr.frozen? ⟨w.heap.size, 1, none⟩ = false := by rw [hbl.frozen (by simp)]; simp
    have hbw : Below w.heap.size w wr := ((Below.refl _ _).alloc (Nat.le_refl _) _).trans (hbl.mono (by omega))
    by_cases hlt : a + n < b
    · have HF : Hid (∀ w, Calls Tryz.prog 39 #[.int .i64 (a + n)] w fun e w' => e = .returned (.int .i64 (faultOf (a + n))) ∧ w' = w) := fun w => keyFault_any _ w
      have hkl := kl_le a n
      by_cases hf : faultOf (a + n) = 0
      · rw [hf] at HF
        have HL : Hid (kl a (n + 1) = kl a n ++ [a + n]) := kl_yes hf
        clear hf
        go_wp2_with fail
        refine (HF.out _).mono ?_
        rintro e w' ⟨rfl, rfl⟩
        go_wp2_with (at_builtin; refine wpList_append_own _ rfl _ _ 62 rfl (w.heap.size + 1) 2 i0 (.int .i64 0) 1 8 Tryz.underlying62 hi hz0 hz1 hz2 rfl (by decide) _ _ _ rfl (hown.alloc _) ⟨_, 0, none⟩ 1 1 [.int .i64 (a + n)] rfl rfl ?c1 ?c2 ?c3 ?c4 ?c5 ?_)
        case c1 =>
          intro j u hj
          match j, hj with
          | 0, hj => simp at hj; subst hj; simp [Addr.add]
        case c2 => intro u hu; simp at hu; subst hu; rfl
        case c3 => unfold maxLen; omega
        case c4 => omega
        case c5 => simp; omega
        intro v' w1 hown' hgrow _
        have R1 : w1.ownsRow (w.heap.size + 1) 2 1 v' (kl a (n + 1)).length ((kl a (n + 1)).map (Value.int .i64)) := by rw [HL.out]; simpa using hown'
        have R2 : Below (w.heap.size + 1) (w.alloc (.cells #[.int .i64 0, .slice none 0 0] 64)) w1 := (hbl.alloc (by omega) _).grown hgrow (by simp; omega) (fun k hk => (hown.lt k hk).1)
        clear hown' hgrow hown hbl hc0 hc1 hf0 hf1 HL
        go_wp2
        go_roundw
        case rel => exact ⟨n + 1, by go_num, by omega, R1, R2⟩
        case measure => simp [intOf]; omega
      · have HL : Hid (kl a (n + 1) = kl a n) := kl_no hf
        have df : (faultOf (a + n) == 0) = false := beq_eq_false_iff_ne.2 hf
        clear hf
        generalize faultOf (a + n) = c at *
        go_wp2_with fail
        refine (HF.out _).mono ?_
        rintro e w' ⟨rfl, rfl⟩
        go_wp2_with fail
        go_roundw
        case rel => exact ⟨n + 1, by go_num, by omega, by rw [HL.out]; exact hown, hbl⟩
        case measure => simp [intOf]; omega
    · obtain ⟨ao, cp, hv⟩ := ownsRow_form hown
      subst hv
      have en : (b - a).toNat = n := by omega
      have En : Hid ((b - a).toNat = n) := en
      clear en
      go_wp2_with fail
      refine bodyPost_ret (v := .agg #[.int .i64 0, .slice ao (kl a n).length cp]) (by simp [results, Tryz.results30, go_sem, hc0, hc1]) rfl ⟨_, rfl, ?_, (hbw.setCell (Nat.le_refl _) _).setCell (Nat.le_refl _) _⟩
      rw [En.out]
      exact (ownsRow_setCell_below (ownsRow_setCell_below hown (by simp) _) (by simp) _).mono (by omega)

set_option maxHeartbeats 400000 in
theorem l1In_yes (v lo hi : Int) (w : World) (h1 : lo ≤ v) (h2 : v ≤ hi) :
    Calls Tryz.prog 51 #[.int .i64 v, .int .i64 lo, .int .i64 hi] w fun e w' => e = .returned (.bool true) ∧ w' = w := by
  have d2 : decide (v ≤ hi) = true := decide_eq_true h2
  go_enter Tryz.func51, Tryz.ntmps51
  go_wp2
  go_ret
  exact ⟨rfl, rfl⟩
set_option maxHeartbeats 1000000 in
theorem specKeysIn_ok (a b : Int) (w : World) (ha : 0 ≤ a) (ha2 : a ≤ 200) (hb : 0 ≤ b) (hb2 : b ≤ 200) :
    Calls Tryz.prog 32 #[.int .i64 a, .int .i64 b] w fun e w' => ∃ v, e = .returned (.agg #[.int .i64 0, v]) ∧ Ints w' w.heap.size v (kl a (b - a).toNat) ∧ Below w.heap.size w w' := by
  obtain ⟨i0, hi, hz0, hz1, hz2⟩ := info_parts info_i64
  go_enter Tryz.func32, Tryz.ntmps32
  go_wp2_with fail
  refine (l1In_yes _ _ _ _ ha ha2).mono ?_
  rintro e w' ⟨rfl, rfl⟩
  go_wp2_with fail
  refine (l1In_yes _ _ _ _ hb hb2).mono ?_
  rintro e w' ⟨rfl, rfl⟩
  go_wp2_with fail
  go_loopw [6] (fun k wr => ∃ (n : Nat) (v : Value), k = .int .i64 (a + n) ∧ n ≤ (b - a).toNat ∧ wr.ownsRow (w.heap.size + 2) 2 1 v (kl a n).length ((kl a n).map (Value.int .i64)) ∧ Below (w.heap.size + 1) (w.alloc (.cells #[.int .i64 0, .slice none 0 0] 64)) wr
      ∧ wr.cell? ⟨w.heap.size + 1, 0, none⟩ = some (.int .i64 0) ∧ wr.cell? ⟨w.heap.size + 1, 1, none⟩ = some v ∧ wr.frozen? ⟨w.heap.size + 1, 1, none⟩ = false ∧ w.heap.size + 1 < wr.heap.size) (fun k _ => (b - intOf k).toNat)
  case atStart => exact ⟨0, .slice none 0 0, by go_num, by omega, World.ownsRow_nil _ _ _ _, (Below.refl _ _).alloc (by simp) _, by simp, by simp, by simp, by simp⟩
  case round =>
    obtain ⟨n, v, rfl, hn, hown, hbl, ho0, ho1, hof, hz⟩ := hrel
    have hc0 : wr.cell? ⟨w.heap.size, 0, none⟩ = some (.int .i64 0) := by rw [hbl.cell (by simp)]; exact World.cell?_alloc_mark w _ _ _ 0
    have hc1 : wr.cell? ⟨w.heap.size, 1, none⟩ = some (.slice none 0 0) := by rw [hbl.cell (by simp)]; exact World.cell?_alloc_mark w _ _ _ 1
    have hf0 : wr.frozen? ⟨w.heap.size, 0, none⟩ = false := by rw [hbl.frozen (by simp)]; simp
    have hf1 : wr.frozen? ⟨w.heap.size, 1, none⟩ = false := by rw [hbl.frozen (by simp)]; simp
    have hbw : Below w.heap.size w wr := ((Below.refl _ _).alloc (Nat.le_refl _) _).trans (hbl.mono (by omega))
    obtain ⟨ao, cp, hv⟩ := ownsRow_form hown
    subst hv
    by_cases hlt : a + n < b
    · have HF : Hid (∀ w, Calls Tryz.prog 49 #[.int .i64 (a + n)] w fun e w' => e = .returned (.int .i64 (faultOf (a + n))) ∧ w' = w) := fun w => l1Fault_any _ w
      have hkl := kl_le a n
      by_cases hf : faultOf (a + n) = 0
      · rw [hf] at HF
        have HL : Hid (kl a (n + 1) = kl a n ++ [a + n]) := kl_yes hf
        clear hf
        go_wp2_with fail
        refine (HF.out _).mono ?_
        rintro e w' ⟨rfl, rfl⟩
        go_wp2_with (at_builtin; refine wpList_append_own _ rfl _ _ 62 rfl (w.heap.size + 2) 2 i0 (.int .i64 0) 1 8 Tryz.underlying62 hi hz0 hz1 hz2 rfl (by decide) _ _ _ rfl (hown.alloc _) ⟨_, 0, none⟩ 1 1 [.int .i64 (a + n)] rfl rfl ?c1 ?c2 ?c3 ?c4 ?c5 ?_)
        case c1 =>
          intro j u hj
          match j, hj with
          | 0, hj => simp at hj; subst hj; simp [Addr.add]
        case c2 => intro u hu; simp at hu; subst hu; rfl
        case c3 => unfold maxLen; omega
        case c4 => omega
        case c5 => simp; omega
        intro v' w1 hown' hgrow _
        have hne : ∀ k, (Value.slice ao (kl a n).length cp).ownBlock = some k → w.heap.size + 2 ≤ k := fun k hk => (hown.lt k hk).1
        have R1 : w1.ownsRow (w.heap.size + 2) 2 1 v' (kl a (n + 1)).length ((kl a (n + 1)).map (Value.int .i64)) := by rw [HL.out]; simpa using hown'
        have R2 : Below (w.heap.size + 1) (w.alloc (.cells #[.int .i64 0, .slice none 0 0] 64)) w1 := (hbl.alloc (by omega) _).grown hgrow (by simp; omega) (fun k hk => by have := hne k hk; omega)
        have R3 : Below (w.heap.size + 2) w' w1 := ((Below.refl _ _).alloc (by omega) _).grown hgrow (by simp; omega) hne
        have q0 : w1.cell? ⟨w.heap.size + 1, 0, none⟩ = some (.int .i64 0) := (R3.cell (p := ⟨w.heap.size + 1, 0, none⟩) (by simp)).trans ho0
        have q1 : w1.cell? ⟨w.heap.size + 1, 1, none⟩ = some (.slice ao (kl a n).length cp) := (R3.cell (p := ⟨w.heap.size + 1, 1, none⟩) (by simp)).trans ho1
        have qf : w1.frozen? ⟨w.heap.size + 1, 1, none⟩ = false := (R3.frozen (p := ⟨w.heap.size + 1, 1, none⟩) (by simp)).trans hof
        have qz : w.heap.size + 1 < w1.heap.size := Nat.lt_of_lt_of_le hz R3.size
        obtain ⟨ao', cp', hv'⟩ := ownsRow_form R1
        subst hv'
        clear hown' hgrow hown hbl hc0 hc1 hf0 hf1 HL ho0 ho1 hof
        go_wp2
        go_roundw
        case rel => exact ⟨n + 1, _, by go_num, by omega, ownsRow_setCell_below R1 (by simp) _, R2.setCell (by simp) _, (World.cell?_setCell_other _ _ _ _ (by simp)).trans q0, World.cell?_setCell_same _ _ _ q1, (World.frozen?_setCell _ _ _ _).trans qf, by simpa [World.setCell] using qz⟩
        case measure => simp [intOf]; omega
      · have HL : Hid (kl a (n + 1) = kl a n) := kl_no hf
        have df : (faultOf (a + n) == 0) = false := beq_eq_false_iff_ne.2 hf
        clear hf
        generalize faultOf (a + n) = c at *
        go_wp2_with fail
        refine (HF.out _).mono ?_
        rintro e w' ⟨rfl, rfl⟩
        go_wp2_with fail
        go_roundw
        case rel => exact ⟨n + 1, _, by go_num, by omega, by rw [HL.out]; exact hown, hbl, ho0, ho1, hof, hz⟩
        case measure => simp [intOf]; omega
    · have en : (b - a).toNat = n := by omega
      have En : Hid ((b - a).toNat = n) := en
      clear en
      go_wp2_with fail
      refine bodyPost_ret (v := .agg #[.int .i64 0, .slice ao (kl a n).length cp]) (by simp [results, Tryz.results32, go_sem, hc0, hc1]) rfl ⟨_, rfl, ?_, (hbw.setCell (Nat.le_refl _) _).setCell (Nat.le_refl _) _⟩
      rw [En.out]
      exact (ownsRow_setCell_below (ownsRow_setCell_below hown (by simp) _) (by simp) _).mono (by omega)
end Go.Proofs.YtiikncbohnhcaaaGreatDoor

namespace Go.Proofs.YtiikncbohnhcaaaGreatDoor
open Go.RowKit

theorem faultOf_ne7 (key : Int) : faultOf key = 0 ∨ faultOf key = 1 ∨ faultOf key = 3 := by
  unfold faultOf
  split
  · exact Or.inr (Or.inr rfl)
  · split
    · exact Or.inl rfl
    · exact Or.inr (Or.inl rfl)
theorem scan_ne7 {g : Nat → Int} (h : ∀ i, g i ≠ 7) : ∀ n, scan g n ≠ 7
  | 0 => by unfold scan; decide
  | n + 1 => by
    unfold scan
    split
    · exact h n
    · exact scan_ne7 h n
theorem cellF_ne7 (c : Nat → Int) (i : Nat) : cellF c i ≠ 7 := by
  have := faultOf_ne7 (c (i * 3))
  unfold cellF
  split
  · omega
  · split
    · decide
    · split <;> decide
theorem lockF_ne7 (l : Nat → Int) (i : Nat) : lockF l i ≠ 7 := by
  have := faultOf_ne7 (l (i * 5))
  have := faultOf_ne7 (l (i * 5 + 3))
  unfold lockF
  split
  · omega
  · split
    · omega
    · split
      · decide
      · split <;> decide
theorem writeF_ne7 (k : Nat → Int) (i : Nat) : writeF k i ≠ 7 := by
  have := faultOf_ne7 (k (i * 4))
  unfold writeF
  split
  · omega
  · split
    · decide
    · split <;> decide
theorem storeF_ne7 (S : Sto) : storeF S ≠ 7 := by
  unfold storeF
  split
  · decide
  · split
    · exact scan_ne7 (cellF_ne7 S.c) S.nc
    · split
      · exact scan_ne7 (lockF_ne7 S.l) S.nl
      · split
        · exact scan_ne7 (writeF_ne7 S.k) S.nw
        · split
          · decide
          · split <;> decide
/-- What a scan tells of one key. -/
noncomputable def prL (S : Sto) (ts : Int) (key : Int) : List Int := match rv S key ts with | some v => [key, v] | none => []
noncomputable def cnL (S : Sto) (ts : Int) (L : List Int) : Nat := (L.filter (fun k => (rv S k ts).isSome)).length
theorem rv_valid {S : Sto} (hz : storeF S = 0) {key ts : Int} (h : faultOf key ≠ 0) : rv S key ts = none := by
  refine rv_none (fun i hi _ => h ?_)
  have := (writeF_zero (scan_zero (storeF_zero hz).2.2.2.1 i hi.1)).1
  rwa [hi.2.1.1] at this
theorem prL_none {S : Sto} {ts key : Int} (h : rv S key ts = none) : prL S ts key = [] := by unfold prL; rw [h]
theorem prL_some {S : Sto} {ts key v : Int} (h : rv S key ts = some v) : prL S ts key = [key, v] := by unfold prL; rw [h]
theorem scan_flat {S : Sto} (hz : storeF S = 0) (ts a : Int) : ∀ m, scanL S ts a m = (kl a m).flatMap (prL S ts) ∧ scanN S ts a m = cnL S ts (kl a m)
  | 0 => ⟨rfl, rfl⟩
  | m + 1 => by
    obtain ⟨h1, h2⟩ := scan_flat hz ts a m
    by_cases hf : faultOf (a + m) = 0
    · rw [kl_yes hf]
      cases hv : rv S (a + m) ts with
      | none =>
        rw [(scanL_no hv).1, (scanL_no hv).2, List.flatMap_append, h1, h2]
        simp [prL_none hv, cnL, hv]
      | some v =>
        rw [(scanL_yes hv).1, (scanL_yes hv).2, List.flatMap_append, h1, h2]
        simp [prL_some hv, cnL, hv]
    · rw [kl_no hf, (scanL_no (rv_valid hz hf)).1, (scanL_no (rv_valid hz hf)).2]
      exact ⟨h1, h2⟩
theorem prL_len (S : Sto) (ts : Int) : ∀ L : List Int, (L.flatMap (prL S ts)).length = 2 * cnL S ts L
  | [] => rfl
  | x :: L => by
    have ih := prL_len S ts L
    cases hv : rv S x ts with
    | none => simp only [List.flatMap_cons, prL_none hv, List.nil_append, ih, cnL, List.filter_cons, hv, Option.isSome_none]; rfl
    | some v => simp only [List.flatMap_cons, prL_some hv, List.length_append, ih, cnL, List.filter_cons, hv, Option.isSome_some, if_true, List.length_cons, List.length_nil]; omega
theorem cnL_append (S : Sto) (ts : Int) (A B : List Int) : cnL S ts (A ++ B) = cnL S ts A + cnL S ts B := by unfold cnL; rw [List.filter_append, List.length_append]
theorem cnL_step {S : Sto} {ts : Int} {L : List Int} {k : Nat} (hk : k < L.length) :
    (∀ v, rv S L[k] ts = some v → cnL S ts (L.take (k + 1)) = cnL S ts (L.take k) + 1 ∧ cnL S ts (L.take k) < cnL S ts L ∧ (L.flatMap (prL S ts)).getD (cnL S ts (L.take k) * 2) 0 = L[k] ∧ (L.flatMap (prL S ts)).getD (cnL S ts (L.take k) * 2 + 1) 0 = v) ∧
    (rv S L[k] ts = none → cnL S ts (L.take (k + 1)) = cnL S ts (L.take k)) := by
  have ht : L.take (k + 1) = L.take k ++ [L[k]] := List.take_succ_eq_append_getElem hk
  have hL : L = L.take k ++ L[k] :: L.drop (k + 1) := by rw [← List.drop_eq_getElem_cons hk, List.take_append_drop]
  refine ⟨fun v hv => ?_, fun hv => ?_⟩
  · have h1 : cnL S ts [L[k]] = 1 := by simp [cnL, hv]
    have hf : L.flatMap (prL S ts) = (L.take k).flatMap (prL S ts) ++ ([L[k], v] ++ (L.drop (k + 1)).flatMap (prL S ts)) := by
      conv => lhs; rw [hL]
      rw [List.flatMap_append, List.flatMap_cons, prL_some hv]
    have hl := prL_len S ts (L.take k)
    refine ⟨by rw [ht, cnL_append, h1], ?_, ?_, ?_⟩
    · conv => rhs; rw [hL]
      rw [cnL_append, show L[k] :: L.drop (k + 1) = [L[k]] ++ L.drop (k + 1) from rfl, cnL_append, h1]
      omega
    · rw [hf, List.getD_eq_getElem?_getD, List.getElem?_append_right (by omega), show cnL S ts (L.take k) * 2 - ((L.take k).flatMap (prL S ts)).length = 0 by omega]
      rfl
    · rw [hf, List.getD_eq_getElem?_getD, List.getElem?_append_right (by omega), show cnL S ts (L.take k) * 2 + 1 - ((L.take k).flatMap (prL S ts)).length = 1 by omega]
      rfl
  · rw [ht, cnL_append]
    have : cnL S ts [L[k]] = 0 := by simp [cnL, hv]
    omega
theorem kl_of {lo x : Int} : ∀ {n : Nat}, x ∈ kl lo n → lo ≤ x ∧ x < lo + n ∧ faultOf x = 0
  | 0, h => by simp [kl] at h
  | n + 1, h => by
    by_cases hf : faultOf (lo + n) = 0
    · rw [kl_yes hf, List.mem_append] at h
      rcases h with h | h
      · have := kl_of h
        exact ⟨this.1, by omega, this.2.2⟩
      · obtain rfl : x = lo + n := by simpa using h
        exact ⟨by omega, by omega, hf⟩
    · rw [kl_no hf] at h
      have := kl_of h
      exact ⟨this.1, by omega, this.2.2⟩
theorem kl_in {lo x : Int} : ∀ {n : Nat}, lo ≤ x → x < lo + n → faultOf x = 0 → x ∈ kl lo n
  | 0, h0, h1, _ => by omega
  | n + 1, h0, h1, hf => by
    by_cases e : x = lo + n
    · subst e
      rw [kl_yes hf]; simp
    · have := kl_in (n := n) h0 (by omega) hf
      by_cases hq : faultOf (lo + n) = 0
      · rw [kl_yes hq]; exact List.mem_append_left _ this
      · rw [kl_no hq]; exact this
theorem blocks_valid {S : Sto} (hz : storeF S = 0) {key ts : Int} (h : blocks S.l S.nl key ts) : faultOf key = 0 := by
  obtain ⟨i, hi, _⟩ := h
  have := (lockF_zero (scan_zero (storeF_zero hz).2.2.1 i hi.1)).1
  have e : S.l (i * 5) = key := hi.2.1
  rwa [e] at this
theorem any_in {S : Sto} (hz : storeF S = 0) {ts a : Int} {m : Nat} : anyBlocks S ts a m ↔ ∃ x, x ∈ kl a m ∧ blocks S.l S.nl x ts := by
  constructor
  · rintro ⟨q, hq, hb⟩
    exact ⟨a + q, kl_in (by omega) (by omega) (blocks_valid hz hb), hb⟩
  · rintro ⟨x, hx, hb⟩
    have h := kl_of hx
    refine ⟨(x - a).toNat, by omega, ?_⟩
    have e : a + ((x - a).toNat : Int) = x := by omega
    rw [e]; exact hb
open Classical in
/-- Has one of the first k keys been blocked? -/
noncomputable def blK (S : Sto) (ts : Int) (L : List Int) (k : Nat) : Bool := decide (∃ x, x ∈ L.take k ∧ blocks S.l S.nl x ts)
theorem blK_zero (S : Sto) (ts : Int) (L : List Int) : blK S ts L 0 = false := by unfold blK; simp
open Classical in
theorem blK_yes {S : Sto} {ts : Int} {L : List Int} {k : Nat} (hk : k < L.length) (h : blocks S.l S.nl L[k] ts) : blK S ts L (k + 1) = true := by
  have hm : L[k] ∈ L.take (k + 1) := by rw [List.take_succ_eq_append_getElem hk]; exact List.mem_append_right _ (List.mem_singleton.2 rfl)
  unfold blK
  exact decide_eq_true ⟨L[k], hm, h⟩
open Classical in
theorem blK_no {S : Sto} {ts : Int} {L : List Int} {k : Nat} (hk : k < L.length) (h : ¬ blocks S.l S.nl L[k] ts) : blK S ts L (k + 1) = blK S ts L k := by
  unfold blK
  rw [decide_eq_decide, List.take_succ_eq_append_getElem hk]
  constructor
  · rintro ⟨x, hx, hb⟩
    rcases List.mem_append.1 hx with q | q
    · exact ⟨x, q, hb⟩
    · obtain rfl : x = L[k] := by simpa using q
      exact absurd hb h
  · rintro ⟨x, hx, hb⟩
    exact ⟨x, List.mem_append_left _ hx, hb⟩
open Classical in
theorem blK_all {S : Sto} {ts : Int} {L : List Int} : blK S ts L L.length = true ↔ ∃ x, x ∈ L ∧ blocks S.l S.nl x ts := by
  unfold blK
  constructor
  · intro h
    have := of_decide_eq_true h
    rwa [List.take_length] at this
  · intro h
    exact decide_eq_true (by rwa [List.take_length])
end Go.Proofs.YtiikncbohnhcaaaGreatDoor

