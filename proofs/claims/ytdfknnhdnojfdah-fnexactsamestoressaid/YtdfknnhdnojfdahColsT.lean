/-
  Own text. SameStores, of the program and of the model, tells just whether two stores are alike in all their numbers: no condition but that they are no longer than the law lets them be.
-/
import Derived.Test.YtdfknnhdnojfdahColsS
namespace Go.Proofs.Ytdfknnhdnojfdah
open Go.RowKit
set_option linter.unusedVariables false

def SameS (S T : Sto) : Prop := Alike 3 S.nc S.c T.nc T.c ∧ Alike 5 S.nl S.l T.nl T.l ∧ Alike 4 S.nw S.k T.nw T.k
theorem below_drewN {B : Nat} {a w : World} (h : Below B a w) (q : Nat) : Below B a (w.drewN q) := ⟨h.os, h.tape, h.output, h.size, h.block⟩

set_option maxHeartbeats 1000000 in
theorem implSame_any (S T : Sto) (v0 v1 v2 u0 u1 u2 : Value) (B B' : Nat) (r : Bool) (w : World) (h : St w B S v0 v1 v2) (h' : St w B' T u0 u1 u2) (hc : S.nc ≤ 1048576) (hl : S.nl ≤ 1048576) (hk : S.nw ≤ 1048576) (hc' : T.nc ≤ 1048576) (hl' : T.nl ≤ 1048576) (hk' : T.nw ≤ 1048576) (hr : r = true ↔ SameS S T) :
    Calls Try.prog 28 #[.agg #[v0, v1, v2], .agg #[u0, u1, u2]] w fun e w' => e = .returned (.bool r) ∧ Below w.heap.size w w' := by
  obtain ⟨a0, c0, a1, c1, a2, c2, rfl, rfl, rfl⟩ := h.form
  obtain ⟨b0, d0, b1, d1, b2, d2, rfl, rfl, rfl⟩ := h'.form
  have H : Hid (St w B S (.slice a0 S.nc c0) (.slice a1 S.nl c1) (.slice a2 S.nw c2)) := h
  have H' : Hid (St w B' T (.slice b0 T.nc d0) (.slice b1 T.nl d1) (.slice b2 T.nw d2)) := h'
  have HR : Hid (r = true ↔ SameS S T) := hr
  clear h h' hr
  by_cases h0 : Alike 3 S.nc S.c T.nc T.c
  case neg =>
    have E : Hid (r = false) := by
      cases r with
      | false => rfl
      | true => exact absurd (HR.out.1 rfl).1 h0
    have H0 : Hid (¬ Alike 3 S.nc S.c T.nc T.c) := h0
    clear h0
    go_enter Try.func28, Try.ntmps28
    go_wp2_with fail
    refine (equalCell_any _ _ B B' _ _ _ _ false _ ((H.out.1.alloc _).alloc _) ((H'.out.1.alloc _).alloc _) hc hc' ⟨fun h => absurd h (by decide), fun h => absurd h H0.out⟩).mono ?_
    rintro e w1 ⟨rfl, q, rfl⟩
    go_wp2
    go_ret
    exact ⟨by rw [E.out]; rfl, below_drewN ((below_alloc _ _).alloc (by simp) _) q⟩
  have H0 : Hid (Alike 3 S.nc S.c T.nc T.c) := h0
  clear h0
  by_cases h1 : Alike 5 S.nl S.l T.nl T.l
  case neg =>
    have E : Hid (r = false) := by
      cases r with
      | false => rfl
      | true => exact absurd (HR.out.1 rfl).2.1 h1
    have H1 : Hid (¬ Alike 5 S.nl S.l T.nl T.l) := h1
    clear h1
    go_enter Try.func28, Try.ntmps28
    go_wp2_with fail
    refine (equalCell_any _ _ B B' _ _ _ _ true _ ((H.out.1.alloc _).alloc _) ((H'.out.1.alloc _).alloc _) hc hc' ⟨fun _ => H0.out, fun _ => rfl⟩).mono ?_
    rintro e w1 ⟨rfl, q, rfl⟩
    go_wp2_with fail
    refine (equalLock_any _ _ B B' _ _ _ _ false _ (((H.out.2.1.alloc _).alloc _).drewN q) (((H'.out.2.1.alloc _).alloc _).drewN q) hl hl' ⟨fun h => absurd h (by decide), fun h => absurd h H1.out⟩).mono ?_
    rintro e w1 ⟨rfl, q2, rfl⟩
    go_wp2
    go_ret
    exact ⟨by rw [E.out]; rfl, by first | exact below_drewN ((below_alloc _ _).alloc (by simp) _) _ | exact below_drewN (below_drewN ((below_alloc _ _).alloc (by simp) _) _) _⟩
  have H1 : Hid (Alike 5 S.nl S.l T.nl T.l) := h1
  clear h1
  have HR3 : Hid (r = true ↔ Alike 4 S.nw S.k T.nw T.k) := ⟨fun h => (HR.out.1 h).2.2, fun h => HR.out.2 ⟨H0.out, H1.out, h⟩⟩
  go_enter Try.func28, Try.ntmps28
  go_wp2_with fail
  refine (equalCell_any _ _ B B' _ _ _ _ true _ ((H.out.1.alloc _).alloc _) ((H'.out.1.alloc _).alloc _) hc hc' ⟨fun _ => H0.out, fun _ => rfl⟩).mono ?_
  rintro e w1 ⟨rfl, q, rfl⟩
  go_wp2_with fail
  refine (equalLock_any _ _ B B' _ _ _ _ true _ (((H.out.2.1.alloc _).alloc _).drewN q) (((H'.out.2.1.alloc _).alloc _).drewN q) hl hl' ⟨fun _ => H1.out, fun _ => rfl⟩).mono ?_
  rintro e w1 ⟨rfl, q2, rfl⟩
  go_wp2_with fail
  refine (equalWrite_any _ _ B B' _ _ _ _ r _ (((H.out.2.2.alloc _).alloc _).drewN (q + q2)) (((H'.out.2.2.alloc _).alloc _).drewN (q + q2)) hk hk' HR3.out).mono ?_
  rintro e w1 ⟨rfl, q3, rfl⟩
  go_wp2
  go_ret
  exact ⟨rfl, by first | exact below_drewN ((below_alloc _ _).alloc (by simp) _) _ | exact below_drewN (below_drewN ((below_alloc _ _).alloc (by simp) _) _) _ | exact below_drewN (below_drewN (below_drewN ((below_alloc _ _).alloc (by simp) _) _) _) _⟩

def box2 (w : World) (v0 v1 v2 u0 u1 u2 : Value) : World := (w.alloc (.cells #[v0, v1, v2] 35)).alloc (.cells #[u0, u1, u2] 35)
theorem Two3 (w : World) (v0 v1 v2 u0 u1 u2 : Value) : Blk3 (box2 w v0 v1 v2 u0 u1 u2) w.heap.size v0 v1 v2 ∧ Blk3 (box2 w v0 v1 v2 u0 u1 u2) (w.heap.size + 1) u0 u1 u2 := by
  refine ⟨(Blk3.new w v0 v1 v2 35).alloc _, ?_⟩
  have := Blk3.new (w.alloc (.cells #[v0, v1, v2] 35)) u0 u1 u2 35
  rwa [World.size_alloc] at this
theorem box2_below (w : World) (v0 v1 v2 u0 u1 u2 : Value) : Below w.heap.size w (box2 w v0 v1 v2 u0 u1 u2) := (below_alloc _ _).alloc (by simp) _
set_option maxRecDepth 10000 in
set_option maxHeartbeats 4000000 in
theorem specSame_len (S : Sto) (c' l' k' : Nat → Int) (v0 v1 v2 u0 u1 u2 : Value) (B B' : Nat) (r : Bool) (w : World) (h : St w B S v0 v1 v2) (h' : St w B' ⟨S.nc, c', S.nl, l', S.nw, k'⟩ u0 u1 u2) (hc : S.nc ≤ 1048576) (hl : S.nl ≤ 1048576) (hk : S.nw ≤ 1048576) (hr : r = true ↔ SameS S ⟨S.nc, c', S.nl, l', S.nw, k'⟩) :
    Calls Try.prog 27 #[.agg #[v0, v1, v2], .agg #[u0, u1, u2]] w fun e w' => e = .returned (.bool r) ∧ Below w.heap.size w w' := by
  obtain ⟨a0, c0, a1, c1, a2, c2, rfl, rfl, rfl⟩ := h.form
  obtain ⟨b0, d0, b1, d1, b2, d2, rfl, rfl, rfl⟩ := h'.form
  have H : Hid (St w B S (.slice a0 S.nc c0) (.slice a1 S.nl c1) (.slice a2 S.nw c2)) := h
  have H' : Hid (St w B' ⟨S.nc, c', S.nl, l', S.nw, k'⟩ (.slice b0 S.nc d0) (.slice b1 S.nl d1) (.slice b2 S.nw d2)) := h'
  have HR : Hid (r = true ↔ SameS S ⟨S.nc, c', S.nl, l', S.nw, k'⟩) := hr
  clear h h' hr
  go_enter Try.func27, Try.ntmps27
  go_wp2
  go_loopw [5] (fun i wr => ∃ k : Nat, k ≤ S.nc ∧ i = .int .i64 k ∧ Hid (Upto (k * 3) S.c c') ∧ Hid (Below w.heap.size w wr ∧ Blk3 wr w.heap.size (.slice a0 S.nc c0) (.slice a1 S.nl c1) (.slice a2 S.nw c2) ∧ Blk3 wr (w.heap.size + 1) (.slice b0 S.nc d0) (.slice b1 S.nl d1) (.slice b2 S.nw d2))) (fun i _ => S.nc - (intOf i).toNat)
  case atStart => exact ⟨0, Nat.zero_le _, rfl, fun p hp => absurd hp (by omega), box2_below _ _ _ _ _ _ _, Two3 _ _ _ _ _ _ _⟩
  case round =>
    obtain ⟨k, hk, rfl, hU, HW⟩ := hrel
    by_cases hlt : k < S.nc
    · obtain ⟨g, o, rfl, _, hg, x0, x1, x2⟩ := (H.out.1.later HW.out.1).at3 hlt
      obtain ⟨g', o', rfl, _, hg', y0, y1, y2⟩ := (H'.out.1.later HW.out.1).at3 (k := k) hlt
      have p0 := HW.out.2.1.1.1
      have q0 := HW.out.2.2.1.1
      have hgd : Try.prog.eqGuardType Try.prog.depth 77 = false := by kernel_rfl
      by_cases he : S.c (k * 3) = c' (k * 3) ∧ S.c (k * 3 + 1) = c' (k * 3 + 1) ∧ S.c (k * 3 + 2) = c' (k * 3 + 2)
      · have hq := neqCell (S.c (k * 3)) (S.c (k * 3 + 1)) (S.c (k * 3 + 2)) (c' (k * 3)) (c' (k * 3 + 1)) (c' (k * 3 + 2)) true (decide_eq_true he)
        have hU2 : Hid (Upto ((k + 1) * 3) S.c c') := uptoCell hU he
        clear he hU
        go_wp2
        go_quiet (fail)
        go_wp2
        go_roundw
        case rel => exact ⟨k + 1, by omega, by go_num, hU2, below_drewN HW.out.1 _, HW.out.2⟩
        case measure => simp [intOf]; omega
      · have hq := neqCell (S.c (k * 3)) (S.c (k * 3 + 1)) (S.c (k * 3 + 2)) (c' (k * 3)) (c' (k * 3 + 1)) (c' (k * 3 + 2)) false (decide_eq_false he)
        have E : Hid (r = false) := by
          cases r with
          | false => rfl
          | true =>
            have h := (HR.out.1 rfl).1.2
            exact absurd ⟨h _ (by omega), h _ (by omega), h _ (by omega)⟩ he
        clear he hU
        go_wp2
        go_quiet (fail)
        go_wp2
        go_ret
        exact ⟨by rw [E.out]; rfl, below_drewN HW.out.1 _⟩
    · obtain rfl : k = S.nc := by omega
      have A0 : Hid (Alike 3 S.nc S.c S.nc c') := ⟨rfl, hU.out⟩
      have p0 := HW.out.2.1.1.1
      clear hU
      go_wp2
      go_loopw [6] (fun i wr => ∃ k : Nat, k ≤ S.nl ∧ i = .int .i64 k ∧ Hid (Upto (k * 5) S.l l') ∧ Hid (Below w.heap.size w wr ∧ Blk3 wr w.heap.size (.slice a0 S.nc c0) (.slice a1 S.nl c1) (.slice a2 S.nw c2) ∧ Blk3 wr (w.heap.size + 1) (.slice b0 S.nc d0) (.slice b1 S.nl d1) (.slice b2 S.nw d2))) (fun i _ => S.nl - (intOf i).toNat)
      case atStart => exact ⟨0, Nat.zero_le _, rfl, fun p hp => absurd hp (by omega), HW.out⟩
      case round =>
        obtain ⟨k, hk, rfl, hU, HW⟩ := hrel
        by_cases hlt : k < S.nl
        · obtain ⟨g, o, rfl, _, hg, x0, x1, x2, x3, x4⟩ := (H.out.2.1.later HW.out.1).at5 hlt
          obtain ⟨g', o', rfl, _, hg', y0, y1, y2, y3, y4⟩ := (H'.out.2.1.later HW.out.1).at5 (k := k) hlt
          have p0 := HW.out.2.1.1.2.1
          have q0 := HW.out.2.2.1.2.1
          have hgd : Try.prog.eqGuardType Try.prog.depth 60 = false := by kernel_rfl
          by_cases he : S.l (k * 5) = l' (k * 5) ∧ S.l (k * 5 + 1) = l' (k * 5 + 1) ∧ S.l (k * 5 + 2) = l' (k * 5 + 2) ∧ S.l (k * 5 + 3) = l' (k * 5 + 3) ∧ S.l (k * 5 + 4) = l' (k * 5 + 4)
          · have hq := neqLock (S.l (k * 5)) (S.l (k * 5 + 1)) (S.l (k * 5 + 2)) (S.l (k * 5 + 3)) (S.l (k * 5 + 4)) (l' (k * 5)) (l' (k * 5 + 1)) (l' (k * 5 + 2)) (l' (k * 5 + 3)) (l' (k * 5 + 4)) true (decide_eq_true he)
            have hU2 : Hid (Upto ((k + 1) * 5) S.l l') := uptoLock hU he
            clear he hU
            go_wp2
            go_quiet (fail)
            go_wp2
            go_roundw
            case rel => exact ⟨k + 1, by omega, by go_num, hU2, below_drewN HW.out.1 _, HW.out.2⟩
            case measure => simp [intOf]; omega
          · have hq := neqLock (S.l (k * 5)) (S.l (k * 5 + 1)) (S.l (k * 5 + 2)) (S.l (k * 5 + 3)) (S.l (k * 5 + 4)) (l' (k * 5)) (l' (k * 5 + 1)) (l' (k * 5 + 2)) (l' (k * 5 + 3)) (l' (k * 5 + 4)) false (decide_eq_false he)
            have E : Hid (r = false) := by
              cases r with
              | false => rfl
              | true =>
                have h := (HR.out.1 rfl).2.1.2
                exact absurd ⟨h _ (by omega), h _ (by omega), h _ (by omega), h _ (by omega), h _ (by omega)⟩ he
            clear he hU
            go_wp2
            go_quiet (fail)
            go_wp2
            go_ret
            exact ⟨by rw [E.out]; rfl, below_drewN HW.out.1 _⟩
        · obtain rfl : k = S.nl := by omega
          have A1 : Hid (Alike 5 S.nl S.l S.nl l') := ⟨rfl, hU.out⟩
          have p0 := HW.out.2.1.1.2.1
          clear hU
          go_wp2
          go_loopw [7] (fun i wr => ∃ k : Nat, k ≤ S.nw ∧ i = .int .i64 k ∧ Hid (Upto (k * 4) S.k k') ∧ Hid (Below w.heap.size w wr ∧ Blk3 wr w.heap.size (.slice a0 S.nc c0) (.slice a1 S.nl c1) (.slice a2 S.nw c2) ∧ Blk3 wr (w.heap.size + 1) (.slice b0 S.nc d0) (.slice b1 S.nl d1) (.slice b2 S.nw d2))) (fun i _ => S.nw - (intOf i).toNat)
          case atStart => exact ⟨0, Nat.zero_le _, rfl, fun p hp => absurd hp (by omega), HW.out⟩
          case round =>
            obtain ⟨k, hk, rfl, hU, HW⟩ := hrel
            by_cases hlt : k < S.nw
            · obtain ⟨g, o, rfl, _, hg, x0, x1, x2, x3⟩ := (H.out.2.2.later HW.out.1).at4 hlt
              obtain ⟨g', o', rfl, _, hg', y0, y1, y2, y3⟩ := (H'.out.2.2.later HW.out.1).at4 (k := k) hlt
              have p0 := HW.out.2.1.1.2.2
              have q0 := HW.out.2.2.1.2.2
              have hgd : Try.prog.eqGuardType Try.prog.depth 87 = false := by kernel_rfl
              by_cases he : S.k (k * 4) = k' (k * 4) ∧ S.k (k * 4 + 1) = k' (k * 4 + 1) ∧ S.k (k * 4 + 2) = k' (k * 4 + 2) ∧ S.k (k * 4 + 3) = k' (k * 4 + 3)
              · have hq := neqWrite (S.k (k * 4)) (S.k (k * 4 + 1)) (S.k (k * 4 + 2)) (S.k (k * 4 + 3)) (k' (k * 4)) (k' (k * 4 + 1)) (k' (k * 4 + 2)) (k' (k * 4 + 3)) true (decide_eq_true he)
                have hU2 : Hid (Upto ((k + 1) * 4) S.k k') := uptoWrite hU he
                clear he hU
                go_wp2
                go_quiet (fail)
                go_wp2
                go_roundw
                case rel => exact ⟨k + 1, by omega, by go_num, hU2, below_drewN HW.out.1 _, HW.out.2⟩
                case measure => simp [intOf]; omega
              · have hq := neqWrite (S.k (k * 4)) (S.k (k * 4 + 1)) (S.k (k * 4 + 2)) (S.k (k * 4 + 3)) (k' (k * 4)) (k' (k * 4 + 1)) (k' (k * 4 + 2)) (k' (k * 4 + 3)) false (decide_eq_false he)
                have E : Hid (r = false) := by
                  cases r with
                  | false => rfl
                  | true =>
                    have h := (HR.out.1 rfl).2.2.2
                    exact absurd ⟨h _ (by omega), h _ (by omega), h _ (by omega), h _ (by omega)⟩ he
                clear he hU
                go_wp2
                go_quiet (fail)
                go_wp2
                go_ret
                exact ⟨by rw [E.out]; rfl, below_drewN HW.out.1 _⟩
            · obtain rfl : k = S.nw := by omega
              have A2 : Hid (Alike 4 S.nw S.k S.nw k') := ⟨rfl, hU.out⟩
              have p0 := HW.out.2.1.1.2.2
              have E : Hid (r = true) := HR.out.2 ⟨A0.out, A1.out, A2.out⟩
              clear hU
              go_wp2
              go_ret
              exact ⟨by rw [E.out]; rfl, HW.out.1⟩
set_option maxRecDepth 10000 in
set_option maxHeartbeats 4000000 in
theorem specSame_any (S T : Sto) (v0 v1 v2 u0 u1 u2 : Value) (B B' : Nat) (r : Bool) (w : World) (h : St w B S v0 v1 v2) (h' : St w B' T u0 u1 u2) (hc : S.nc ≤ 1048576) (hl : S.nl ≤ 1048576) (hk : S.nw ≤ 1048576) (hc' : T.nc ≤ 1048576) (hl' : T.nl ≤ 1048576) (hk' : T.nw ≤ 1048576) (hr : r = true ↔ SameS S T) :
    Calls Try.prog 27 #[.agg #[v0, v1, v2], .agg #[u0, u1, u2]] w fun e w' => e = .returned (.bool r) ∧ Below w.heap.size w w' := by
  obtain ⟨a0, c0, a1, c1, a2, c2, rfl, rfl, rfl⟩ := h.form
  obtain ⟨b0, d0, b1, d1, b2, d2, rfl, rfl, rfl⟩ := h'.form
  have H : Hid (St w B S (.slice a0 S.nc c0) (.slice a1 S.nl c1) (.slice a2 S.nw c2)) := h
  have H' : Hid (St w B' T (.slice b0 T.nc d0) (.slice b1 T.nl d1) (.slice b2 T.nw d2)) := h'
  have HR : Hid (r = true ↔ SameS S T) := hr
  clear h h' hr
  by_cases h0 : S.nc = T.nc
  case neg =>
    have E : Hid (r = false) := by
      cases r with
      | false => rfl
      | true => exact absurd (HR.out.1 rfl).1.1 h0
    have d : ((S.nc : Int) != (T.nc : Int)) = true := bne_iff_ne.2 (by omega)
    clear h0 hc hl hk hc' hl' hk' H H' HR
    go_enter Try.func27, Try.ntmps27
    go_wp2
    go_ret
    exact ⟨by rw [E.out]; rfl, (below_alloc _ _).alloc (by simp) _⟩
  have e0 : Hid (S.nc = T.nc) := h0
  by_cases h0 : S.nl = T.nl
  case neg =>
    have E : Hid (r = false) := by
      cases r with
      | false => rfl
      | true => exact absurd (HR.out.1 rfl).2.1.1 h0
    have d : ((S.nl : Int) != (T.nl : Int)) = true := bne_iff_ne.2 (by omega)
    clear h0 hc hl hk hc' hl' hk' H H' HR
    go_enter Try.func27, Try.ntmps27
    go_wp2
    go_ret
    exact ⟨by rw [E.out]; rfl, (below_alloc _ _).alloc (by simp) _⟩
  have e1 : Hid (S.nl = T.nl) := h0
  by_cases h0 : S.nw = T.nw
  case neg =>
    have E : Hid (r = false) := by
      cases r with
      | false => rfl
      | true => exact absurd (HR.out.1 rfl).2.2.1 h0
    have d : ((S.nw : Int) != (T.nw : Int)) = true := bne_iff_ne.2 (by omega)
    clear h0 hc hl hk hc' hl' hk' H H' HR
    go_enter Try.func27, Try.ntmps27
    go_wp2
    go_ret
    exact ⟨by rw [E.out]; rfl, (below_alloc _ _).alloc (by simp) _⟩
  have e2 : Hid (S.nw = T.nw) := h0
  have e : T = ⟨S.nc, T.c, S.nl, T.l, S.nw, T.k⟩ := by rw [e0.out, e1.out, e2.out]
  rw [e] at H' HR
  exact specSame_len S T.c T.l T.k _ _ _ _ _ _ B B' r w H.out (by rw [← e0.out, ← e1.out, ← e2.out]; exact H'.out) hc hl hk HR.out
end Go.Proofs.Ytdfknnhdnojfdah
