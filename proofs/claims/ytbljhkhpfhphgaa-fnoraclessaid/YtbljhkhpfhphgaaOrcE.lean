/-
  Own text. Chapter 5: spec.GrantMany where nothing is at fault: the list of its grants is answered, in new memory.
-/
import Derived.Test.YtbljhkhpfhphgaaOrcD
import Derived.Maps.AppendAt
namespace Go.Proofs.Ytbljhkhpfhphgaa
open Go.RowKit

/-- A result of GrantMany in a block of its own. -/
def OT (w : World) (g : Nat) (c : Int) (v : Value) (x y : Int) : Prop :=
  (w.cell? ⟨g, 0, none⟩ = some (.int .i64 c) ∧ w.cell? ⟨g, 1, none⟩ = some v ∧ w.cell? ⟨g, 2, none⟩ = some (.int .i64 x) ∧ w.cell? ⟨g, 3, none⟩ = some (.int .i64 y)) ∧
  (w.frozen? ⟨g, 0, none⟩ = false ∧ w.frozen? ⟨g, 1, none⟩ = false ∧ w.frozen? ⟨g, 2, none⟩ = false ∧ w.frozen? ⟨g, 3, none⟩ = false) ∧ g < w.heap.size
theorem OT.later {w w' : World} {g B : Nat} {c : Int} {v : Value} {x y : Int} (h : OT w g c v x y) (hb : Below B w w') (hg : g < B) : OT w' g c v x y :=
  ⟨⟨(hb.cell (p := ⟨g, 0, none⟩) hg).trans h.1.1, (hb.cell (p := ⟨g, 1, none⟩) hg).trans h.1.2.1, (hb.cell (p := ⟨g, 2, none⟩) hg).trans h.1.2.2.1, (hb.cell (p := ⟨g, 3, none⟩) hg).trans h.1.2.2.2⟩,
   ⟨(hb.frozen (p := ⟨g, 0, none⟩) hg).trans h.2.1.1, (hb.frozen (p := ⟨g, 1, none⟩) hg).trans h.2.1.2.1, (hb.frozen (p := ⟨g, 2, none⟩) hg).trans h.2.1.2.2.1, (hb.frozen (p := ⟨g, 3, none⟩) hg).trans h.2.1.2.2.2⟩, Nat.lt_of_lt_of_le h.2.2 hb.size⟩
theorem OT.new (w : World) (c : Int) (v : Value) (x y : Int) (t : TypeId) : OT (w.alloc (.cells #[.int .i64 c, v, .int .i64 x, .int .i64 y] t)) w.heap.size c v x y :=
  ⟨⟨by simp, by simp, by simp, by simp⟩, ⟨by simp, by simp, by simp, by simp⟩, by simp⟩
theorem OT.alloc {w : World} {g : Nat} {c : Int} {v : Value} {x y : Int} (h : OT w g c v x y) (o : Obj) : OT (w.alloc o) g c v x y := h.later ((Below.refl _ _).alloc (Nat.le_refl _) o) h.2.2
theorem OT.drewN {w : World} {g : Nat} {c : Int} {v : Value} {x y : Int} (h : OT w g c v x y) (n : Nat) : OT (w.drewN n) g c v x y := h
theorem OT.set23 {w : World} {g : Nat} {c : Int} {v : Value} {x y : Int} (h : OT w g c v x y) (x' y' : Int) : OT ((w.setCell ⟨g, 2, none⟩ (.int .i64 x')).setCell ⟨g, 3, none⟩ (.int .i64 y')) g c v x' y' := by
  obtain ⟨⟨c0, c1, c2, c3⟩, ⟨f0, f1, f2, f3⟩, hz⟩ := h
  refine ⟨⟨?_, ?_, ?_, ?_⟩, ⟨?_, ?_, ?_, ?_⟩, by simpa [World.setCell] using hz⟩
  · rw [World.cell?_setCell_other _ _ _ _ (by simp), World.cell?_setCell_other _ _ _ _ (by simp)]; exact c0
  · rw [World.cell?_setCell_other _ _ _ _ (by simp), World.cell?_setCell_other _ _ _ _ (by simp)]; exact c1
  · rw [World.cell?_setCell_other _ _ _ _ (by simp)]; exact World.cell?_setCell_same _ _ _ c2
  · exact World.cell?_setCell_same _ _ _ ((World.cell?_setCell_other _ _ _ _ (by simp)).trans c3)
  · rw [World.frozen?_setCell, World.frozen?_setCell]; exact f0
  · rw [World.frozen?_setCell, World.frozen?_setCell]; exact f1
  · rw [World.frozen?_setCell, World.frozen?_setCell]; exact f2
  · rw [World.frozen?_setCell, World.frozen?_setCell]; exact f3
theorem OT.set1 {w : World} {g : Nat} {c : Int} {v : Value} {x y : Int} (h : OT w g c v x y) (v' : Value) : OT (w.setCell ⟨g, 1, none⟩ v') g c v' x y := by
  obtain ⟨⟨c0, c1, c2, c3⟩, ⟨f0, f1, f2, f3⟩, hz⟩ := h
  refine ⟨⟨?_, ?_, ?_, ?_⟩, ⟨?_, ?_, ?_, ?_⟩, by simpa [World.setCell] using hz⟩
  · rw [World.cell?_setCell_other _ _ _ _ (by simp)]; exact c0
  · exact World.cell?_setCell_same _ _ _ c1
  · rw [World.cell?_setCell_other _ _ _ _ (by simp)]; exact c2
  · rw [World.cell?_setCell_other _ _ _ _ (by simp)]; exact c3
  · rw [World.frozen?_setCell]; exact f0
  · rw [World.frozen?_setCell]; exact f1
  · rw [World.frozen?_setCell]; exact f2
  · rw [World.frozen?_setCell]; exact f3
theorem cell_new_at (Y : World) (v : Value) (t : TypeId) (k : Nat) (h : Y.heap.size = k) : (Y.alloc (.cells #[v] t)).cell? ⟨k, 0, none⟩ = some v := by subst h; simp
theorem OT.all {w : World} {g : Nat} {c : Int} {v : Value} {x y : Int} (h : OT w g c v x y) (c' : Int) (v' : Value) (x' y' : Int) :
    OT ((((w.setCell ⟨g, 0, none⟩ (.int .i64 c')).setCell ⟨g, 1, none⟩ v').setCell ⟨g, 2, none⟩ (.int .i64 x')).setCell ⟨g, 3, none⟩ (.int .i64 y')) g c' v' x' y' := by
  refine OT.set23 (x := x) (y := y) (OT.set1 (v := v) ?_ v') x' y'
  obtain ⟨⟨c0, c1, c2, c3⟩, ⟨f0, f1, f2, f3⟩, hz⟩ := h
  refine ⟨⟨?_, ?_, ?_, ?_⟩, ⟨?_, ?_, ?_, ?_⟩, by simpa [World.setCell] using hz⟩
  · exact World.cell?_setCell_same _ _ _ c0
  · rw [World.cell?_setCell_other _ _ _ _ (by simp)]; exact c1
  · rw [World.cell?_setCell_other _ _ _ _ (by simp)]; exact c2
  · rw [World.cell?_setCell_other _ _ _ _ (by simp)]; exact c3
  · rw [World.frozen?_setCell]; exact f0
  · rw [World.frozen?_setCell]; exact f1
  · rw [World.frozen?_setCell]; exact f2
  · rw [World.frozen?_setCell]; exact f3

set_option maxHeartbeats 4000000 in
theorem specMany_ok (a b : Int) (N : Nat) (w : World) (h : oFault a b = 0) (hN : N ≤ 100) :
    Calls Try.prog 12 #[.agg #[.int .i64 a, .int .i64 b], .int .i64 N] w fun e w' => ∃ v, e = .returned (.agg #[.int .i64 (ansC (gl N a b)), v, .int .i64 (ansA a (gl N a b)), .int .i64 (ansB b (gl N a b))]) ∧ Ints w' w.heap.size v (ansL (gl N a b)) ∧ Below w.heap.size w w' := by
  obtain ⟨i0, hi, hz0, hz1, hz2⟩ := info_parts info_i64
  have HC : Hid (oFault a b = 0) := h
  have HN : Hid (decide (0 ≤ (N : Int) ∧ (N : Int) ≤ 100) = true) := decide_eq_true (by omega)
  clear h
  go_enter Try.func12, Try.ntmps12
  go_wp2_with fail
  refine (l5Fault_any a b _ _ (by simp) (by simp)).mono ?_
  rintro e w1 ⟨rfl, q, rfl⟩
  rw [HC.out]
  go_wp2_with fail
  refine (l1In_tell _ _ _ _ _ HN.out).mono ?_
  rintro e w1 ⟨rfl, rfl⟩
  go_wp2_with fail
  go_loopw [1] (fun k wr => ∃ (pre : List Q4) (x y : Int) (m : Nat) (v : Value), k = .int .i64 m ∧ m ≤ 100 ∧ Hid (gl N a b = pre ++ gl m x y ∧ oFault x y = 0 ∧ orA a pre = x ∧ orB b pre = y ∧ ansC pre = 0) ∧ Hid (pre.length ≤ 100) ∧ wr.ownsRow (w.heap.size + 3) 2 1 v (tms pre).length ((tms pre).map (Value.int .i64))
      ∧ Hid (Below (w.heap.size + 2) (((w.alloc (.cells #[.int .i64 a, .int .i64 b] 25)).alloc (.cells #[.int .i64 0, .slice none 0 0, .int .i64 0, .int .i64 0] 30)).drewN q) wr) ∧ Hid (OT wr (w.heap.size + 1 + 1) 0 v x y)) (fun k _ => (intOf k).toNat)
  case atStart =>
    refine ⟨[], a, b, N, .slice none 0 0, rfl, hN, ⟨rfl, HC.out, rfl, rfl, rfl⟩, Nat.zero_le _, World.ownsRow_nil _ _ _ _, ?_, ?_⟩
    · exact (Below.refl _ _).alloc (by simp) _
    · have := OT.new (((w.alloc (.cells #[.int .i64 a, .int .i64 b] 25)).alloc (.cells #[.int .i64 0, .slice none 0 0, .int .i64 0, .int .i64 0] 30)).drewN q) 0 (.slice none 0 0) a b 30
      rw [show ((((w.alloc (.cells #[.int .i64 a, .int .i64 b] 25)).alloc (.cells #[.int .i64 0, .slice none 0 0, .int .i64 0, .int .i64 0] 30)).drewN q).heap.size) = w.heap.size + 1 + 1 by simp] at this
      exact this
  case round =>
    obtain ⟨pre, x, y, m, v, rfl, hm, hG, hP, hown, hB, hO⟩ := hrel
    obtain ⟨⟨r0, r1, r2, r3⟩, ⟨f0, f1, f2, f3⟩, hz⟩ : OT wr (w.heap.size + 1) 0 (.slice none 0 0) 0 0 := by
      have k := OT.new (w.alloc (.cells #[.int .i64 a, .int .i64 b] 25)) 0 (.slice none 0 0) 0 0 30
      rw [World.size_alloc] at k
      exact (k.drewN q).later hB.out (by omega)
    have hbw : Hid (Below w.heap.size w wr) := (below_drewN (((Below.refl _ _).alloc (Nat.le_refl _) _).alloc (by simp) _) _).trans (hB.out.mono (by omega))
    obtain ⟨ao, cp, hv⟩ := ownsRow_form hown
    subst hv
    obtain ⟨⟨o0, o1, o2, o3⟩, ⟨p0, p1, p2, p3⟩, hzo⟩ := hO.out
    match m, hm, hG with
    | 0, _, hG =>
      have e0 : gl N a b = pre := by have := hG.out.1; simpa [gl] using this
      have E1 : Hid (ansC (gl N a b) = 0 ∧ ansL (gl N a b) = tms pre ∧ ansA a (gl N a b) = x ∧ ansB b (gl N a b) = y) := by
        obtain ⟨_, _, g2, g3, g4⟩ := hG.out
        unfold ansL ansA ansB
        rw [e0, if_pos g4, if_pos g4, if_pos g4]
        exact ⟨g4, rfl, g2, g3⟩
      clear e0 hG
      go_wp2_with fail
      refine bodyPost_ret (v := .agg #[.int .i64 0, .slice ao (tms pre).length cp, .int .i64 x, .int .i64 y]) (by simp [results, Try.results12, go_sem, r0, r1, r2, r3]) rfl ⟨.slice ao (tms pre).length cp, ?_, ?_, ?_⟩
      · rw [E1.out.1, E1.out.2.2.1, E1.out.2.2.2]
      · rw [E1.out.2.1]
        exact (ownsRow_setCell_below (ownsRow_setCell_below (ownsRow_setCell_below (ownsRow_setCell_below hown (by simp) _) (by simp) _) (by simp) _) (by simp) _).mono (by omega)
      · exact (((hbw.out.setCell (by simp) _).setCell (by simp) _).setCell (by simp) _).setCell (by simp) _
    | m + 1, hm, hG =>
      obtain ⟨hx, hxy, hy⟩ := oFault_zero hG.out.2.1
      have HL : Hid (∀ w, Calls Try.prog 33 #[.agg #[.int .i64 x, .int .i64 y]] w fun e w' => e = .returned (.agg #[.int .i64 (grantC x y), .int .i64 (grantT x y), .int .i64 (grantN x y), .int .i64 (grantB x y)]) ∧ Below w.heap.size w w') := fun w => l5Grant_any x y w hx hxy hy
      by_cases hc : grantC x y = 0
      · have G2 : Hid (gl N a b = (pre ++ [gq x y]) ++ gl m (grantN x y) (grantB x y) ∧ oFault (grantN x y) (grantB x y) = 0 ∧ orA a (pre ++ [gq x y]) = grantN x y ∧ orB b (pre ++ [gq x y]) = grantB x y ∧ ansC (pre ++ [gq x y]) = 0) := by
          obtain ⟨g0, g1, _⟩ := hG.out
          rw [gl_good hc] at g0
          exact ⟨by rw [g0]; simp, grant_next g1 hc, by rw [orA_snoc]; rfl, by rw [orB_snoc]; rfl, by rw [ansC_snoc]; exact hc⟩
        have HT : Hid (tms (pre ++ [gq x y]) = tms pre ++ [grantT x y]) := tms_snoc _ _
        have hpl : pre.length + 1 ≤ 100 := by
          have k1 := gl_le N a b
          rw [G2.out.1] at k1
          simp at k1
          omega
        have htl : Hid ((tms pre).length + 1 ≤ 100) := by have := tms_length pre; unfold Hid; omega
        rw [hc] at HL
        generalize gq x y = qq at *
        clear hc hx hxy hy
        obtain ⟨c1, hc1⟩ : ∃ c1, grantT x y = c1 := ⟨_, rfl⟩
        obtain ⟨c2, hc2⟩ : ∃ c2, grantN x y = c2 := ⟨_, rfl⟩
        obtain ⟨c3, hc3⟩ : ∃ c3, grantB x y = c3 := ⟨_, rfl⟩
        rw [hc1, hc2, hc3] at HL
        rw [hc2, hc3] at G2
        rw [hc1] at HT
        clear hc1 hc2 hc3 hG
        go_wp2_with fail
        refine (HL.out _).mono ?_
        rintro e w2 ⟨rfl, b2⟩
        have hown2 : w2.ownsRow (w.heap.size + 3) 2 1 (.slice ao (tms pre).length cp) (tms pre).length ((tms pre).map (Value.int .i64)) := Ints.later (xs := tms pre) hown b2
        have hO2 : OT w2 (w.heap.size + 1 + 1) 0 (.slice ao (tms pre).length cp) x y := hO.out.later b2 hzo
        have hB2 : Hid (Below (w.heap.size + 2) (((w.alloc (.cells #[.int .i64 a, .int .i64 b] 25)).alloc (.cells #[.int .i64 0, .slice none 0 0, .int .i64 0, .int .i64 0] 30)).drewN q) w2) := hB.out.trans (b2.mono (by omega))
        clear o0 o1 o2 o3 p0 p1 p2 p3 r0 r1 r2 r3 f0 f1 f2 f3 hO hB hown
        obtain ⟨⟨o0, o1, o2, o3⟩, ⟨p0, p1, p2, p3⟩, hzo2⟩ := hO2
        clear b2
        have hlt2 : w.heap.size + 3 ≤ w2.heap.size := by omega
        go_wp2_with (at_builtin; refine wpList_append_own _ rfl _ _ 28 rfl (w.heap.size + 3) 2 i0 (.int .i64 0) 1 8 Try.underlying28 hi hz0 hz1 hz2 rfl (by decide) _ _ _ rfl (World.ownsRow.alloc (World.ownsRow.alloc (ownsRow_setCell_below (ownsRow_setCell_below hown2 (a := ⟨w.heap.size + 1 + 1, 2, none⟩) (Nat.lt_succ_self _) _) (a := ⟨w.heap.size + 1 + 1, 3, none⟩) (Nat.lt_succ_self _) _) _) _) ⟨_, 0, none⟩ 1 1 [.int .i64 c1] rfl rfl ?c1 ?c2 ?c3 ?c4 ?c5 ?_)
        case c1 =>
          intro j u hj
          match j, hj with
          | 0, hj =>
            simp at hj; subst hj
            exact cell_new_at _ _ _ _ (by simp [World.setCell])
        case c2 => intro u hu; simp at hu; subst hu; rfl
        case c3 => have := htl.out; unfold maxLen; omega
        case c4 => have := htl.out; omega
        case c5 => simp [World.setCell]; omega
        intro v' w3 hown' hgrow _
        have hO2 : OT w2 (w.heap.size + 1 + 1) 0 (.slice ao (tms pre).length cp) x y := ⟨⟨o0, o1, o2, o3⟩, ⟨p0, p1, p2, p3⟩, hzo2⟩
        have hne : ∀ k, (Value.slice ao (tms pre).length cp).ownBlock = some k → w.heap.size + 3 ≤ k := fun k hk => (hown2.lt k hk).1
        have R3 : Below (w.heap.size + 3) ((w2.setCell ⟨w.heap.size + 1 + 1, 2, none⟩ (.int .i64 c2)).setCell ⟨w.heap.size + 1 + 1, 3, none⟩ (.int .i64 c3)) w3 :=
          (((Below.refl _ _).alloc (by simp [World.setCell]; omega) _).alloc (by simp [World.setCell]; omega) _).grown hgrow (by simp [World.setCell]; omega) hne
        have hO3 : Hid (OT w3 (w.heap.size + 1 + 1) 0 (.slice ao (tms pre).length cp) c2 c3) := (hO2.set23 c2 c3).later R3 (by omega)
        have hB3 : Hid (Below (w.heap.size + 2) (((w.alloc (.cells #[.int .i64 a, .int .i64 b] 25)).alloc (.cells #[.int .i64 0, .slice none 0 0, .int .i64 0, .int .i64 0] 30)).drewN q) w3) := ((hB2.out.setCell (Nat.le_refl _) _).setCell (Nat.le_refl _) _).trans (R3.mono (by omega))
        have R1 : Hid (w3.ownsRow (w.heap.size + 3) 2 1 v' (tms (pre ++ [qq])).length ((tms (pre ++ [qq])).map (Value.int .i64))) := by unfold Hid; rw [HT.out]; simpa using hown'
        obtain ⟨ao', cp', hv'⟩ := ownsRow_form R1.out
        subst hv'
        clear hown' hgrow hown2 o0 o1 o2 o3 p0 p1 p2 p3 hO2 R3 hB2
        obtain ⟨⟨o0, o1, o2, o3⟩, ⟨p0, p1, p2, p3⟩, hzo3⟩ := hO3.out
        go_wp2
        go_roundw
        case rel => exact ⟨pre ++ [qq], c2, c3, m, _, by go_num, by omega, G2, by unfold Hid; simp; omega, ownsRow_setCell_below R1.out (Nat.lt_succ_self _) _, hB3.out.setCell (Nat.le_refl _) _, hO3.out.set1 _⟩
        case measure => simp [intOf]
      · have E1 : Hid (ansC (gl N a b) = grantC x y ∧ ansL (gl N a b) = [] ∧ ansA a (gl N a b) = 0 ∧ ansB b (gl N a b) = 0) := by
          have g0 := hG.out.1
          rw [gl_bad hc] at g0
          rw [g0]
          exact ans_bad (q := gq x y) hc
        have d0 : (grantC x y != 0) = true := by rw [bne_iff_ne]; exact hc
        clear hc hx hxy hy hG
        generalize grantC x y = c0 at *
        generalize grantT x y = c1 at *
        generalize grantN x y = c2 at *
        generalize grantB x y = c3 at *
        go_wp2_with fail
        refine (HL.out _).mono ?_
        rintro e w2 ⟨rfl, b2⟩
        have hR2 : OT w2 (w.heap.size + 1) 0 (.slice none 0 0) 0 0 := OT.later ⟨⟨r0, r1, r2, r3⟩, ⟨f0, f1, f2, f3⟩, hz⟩ b2 hz
        have hbw2 : Hid (Below w.heap.size w w2) := hbw.out.trans (b2.mono hbw.out.size)
        clear r0 r1 r2 r3 f0 f1 f2 f3 hO hB hown b2
        have HR2 : Hid (OT w2 (w.heap.size + 1) 0 (.slice none 0 0) 0 0) := hR2
        obtain ⟨⟨r0, r1, r2, r3⟩, ⟨f0, f1, f2, f3⟩, hz2⟩ := hR2
        go_wp2
        obtain ⟨⟨z0, z1, z2, z3⟩, _, _⟩ := (HR2.out.all c0 (.slice none 0 0) 0 0).alloc (.cells #[.int .i64 c0, .int .i64 c1, .int .i64 c2, .int .i64 c3] 33)
        refine bodyPost_ret (v := .agg #[.int .i64 c0, .slice none 0 0, .int .i64 0, .int .i64 0]) (by simp [results, Try.results12, go_sem, z0, z1, z2, z3]) rfl ⟨.slice none 0 0, ?_, ?_, ?_⟩
        · rw [E1.out.1, E1.out.2.2.1, E1.out.2.2.2]
        · rw [E1.out.2.1]; exact Ints.nil _ _
        · exact ((((hbw2.out.setCell (by simp) _).setCell (by simp) _).setCell (by simp) _).setCell (by simp) _).alloc (by simp [World.setCell]; omega) _
end Go.Proofs.Ytbljhkhpfhphgaa
