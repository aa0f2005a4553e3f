/-
  Own text, merged of PaiN, PaiO, PaiS, PaiP, PaiQ.
-/
import Derived.Test.YtdbcmckoiacemaaPk2
namespace Go.Proofs.Ytdbcmckoiacemaa
open Go.RowKit

theorem own_but {w w' : World} {b B m n : Nat} {e : TypeId} {v : Value} {F : Nat → Int} (h : Own w B e m n F v) (hT : But b w w') (hb : b < B) : Own w' B e m n F v :=
  own_kept h (fun k hk => hT.block k (own_in h k hk).2 (fun q => by have := (own_in h k hk).1; cases q; omega))
structure DrP (w : World) (b : Nat) (o : Option Addr) (len cap : Nat) (L : Prs) (v : Value) (a : Int) (x : World) : Prop where
  own : Own x w.heap.size 65 2 L.length (rowL L) v
  src : Src x b o len cap a
  but : But b w x
set_option maxRecDepth 100000 in
set_option maxHeartbeats 2000000 in
theorem l11Right_any (w : World) (b : Nat) (o : Option Addr) (len cap : Nat) (a : Int) (h : Src w b o len cap a) (ha : a ≤ 500000) (hl : len ≤ 1048576) :
    Calls Try.prog 54 #[.pointer (some ⟨b, 0, none⟩)] w fun e w' => ∃ (L : Prs) (ao : Option Addr) (cp : Nat) (a1 : Int), e = .returned (.slice ao L.length cp) ∧ L.length ≤ 8 ∧ a1 ≤ a + 80 ∧ DrP w b o len cap L (.slice ao L.length cp) a1 w' := by
  have H : Hid (Src w b o len cap a) := h
  have hbl := h.lt
  clear h
  have D0 : Hid (DrP w b o len cap [] (.slice (some ⟨w.heap.size, 0, none⟩) 0 0) a (w.alloc (.cells #[] 65))) := ⟨ownM_own (L := []) (OwnM.lit0 _ _ _ _ rfl), H.out.alloc _, (But.refl _ _).alloc _⟩
  go_enter Try.func54, Try.ntmps54
  go_wp2_with fail
  refine (l1Next_any _ b o len cap a 8 D0.out.src (by omega) hl).mono ?_
  rintro e w1 ⟨r, rfl, p0, p1, hS1, hT1⟩
  have p2 : r < 8 := p1 (by omega)
  obtain ⟨k0, rfl⟩ : ∃ k : Nat, r = k := ⟨r.toNat, by omega⟩
  have D1 : Hid (DrP w b o len cap [] (.slice (some ⟨w.heap.size, 0, none⟩) 0 0) (a + 1) w1) := ⟨own_but D0.out.own hT1 hbl, hS1, D0.out.but.trans hT1⟩
  clear hS1 hT1 D0 p0 p1
  go_wp2
  go_loopw [3, 4] (fun v k wr => ∃ (L : Prs) (z : Nat) (ao : Option Addr) (cp : Nat) (a1 : Int), v = .slice ao L.length cp ∧ k = .int .i64 z ∧ L.length + z ≤ 8 ∧ a1 + 8 * z ≤ a + 80 ∧ Hid (DrP w b o len cap L (.slice ao L.length cp) a1 wr)) (fun _ k _ => (intOf k).toNat)
  case atStart => exact ⟨[], k0, _, _, a + 1, rfl, rfl, by simp; omega, by omega, D1⟩
  case round =>
    clear D1
    obtain ⟨L, z, ao, cp, a1, rfl, rfl, hnz, haz, HD⟩ := hrel
    by_cases hz : 0 < z
    case neg =>
      obtain rfl : z = 0 := by omega
      go_wp2
      go_ret
      exact ⟨L, ao, cp, a1, rfl, by omega, by omega, HD.out⟩
    have dz : decide (0 < z) = true := decide_eq_true hz
    have hwz : IntKind.i64.wrap ((z : Int) - 1) = ((z - 1 : Nat) : Int) := by simp [IntKind.wrap, IntKind.bits, IntKind.signed]; omega
    go_wp2_with fail
    refine (l1Key_any _ b o len cap a1 HD.out.src (by omega) hl).mono ?_
    rintro e w2 ⟨x0, rfl, _, hS2, hT2⟩
    have D2 : Hid (DrP w b o len cap L (.slice ao L.length cp) (a1 + 5) w2) := ⟨own_but HD.out.own hT2 hbl, hS2, HD.out.but.trans hT2⟩
    clear hS2 hT2 HD
    go_wp2_with fail
    refine (l1Next_any _ b o len cap (a1 + 5) 99 D2.out.src (by omega) hl).mono ?_
    rintro e w3 ⟨x1, rfl, _, _, hS3, hT3⟩
    have D3 : Hid (DrP w b o len cap L (.slice ao L.length cp) (a1 + 5 + 1) w3) := ⟨own_but D2.out.own hT3 hbl, hS3, D2.out.but.trans hT3⟩
    clear hS3 hT3 D2
    go_wp2_with fail
    refine (l11Set_any L _ w.heap.size x0 x1 true _ D3.out.own.row.1 (by omega)).mono ?_
    rintro e w4 ⟨ao4, cp4, rfl, o4, q4⟩
    have D4 : Hid (DrP w b o len cap (setS L x0 x1 true) (.slice ao4 (setS L x0 x1 true).length cp4) (a1 + 5 + 1) w4) := ⟨o4.mono D3.out.but.size, D3.out.src.later q4, D3.out.but.below q4⟩
    have hln : (setS L x0 x1 true).length ≤ L.length + 1 := by rw [setS_put]; exact putPr_len L x0 x1
    clear o4 q4 D3
    obtain ⟨M, hM⟩ : ∃ M, setS L x0 x1 true = M := ⟨_, rfl⟩
    rw [hM] at D4 hln
    rw [hM]
    clear hM
    go_wp2
    go_roundw
    case rel => exact ⟨M, z - 1, ao4, cp4, a1 + 5 + 1, rfl, by go_num, by omega, by omega, D4⟩
    case measure => simp [intOf]; omega
/-- Pairs that were drawn: whatever they are. -/
structure DrQ (w : World) (b : Nat) (o : Option Addr) (len cap : Nat) (n : Nat) (v : Value) (a : Int) (x : World) : Prop where
  row : ∃ F, Row x w.heap.size 2 n F v
  src : Src x b o len cap a
  but : But b w x
theorem row_set1 {w : World} {B n g o cp : Nat} {F : Nat → Int} (h : Row w B 2 n F (.slice (some ⟨g, o, none⟩) n cp)) (u : Int) : Row (w.setCell ⟨g, o + 1, none⟩ (.int .i64 u)) B 2 n (fun p => if p = 1 then u else F p) (.slice (some ⟨g, o, none⟩) n cp) := by
  obtain ⟨ao, cp', hv, hr⟩ := h
  refine ⟨_, _, rfl, fun hn => ?_⟩
  obtain ⟨g', o', h1, h2, h3, h4⟩ := hr hn
  simp only [Value.slice.injEq] at hv
  obtain ⟨rfl, _, rfl⟩ := hv
  simp only [Option.some.injEq, Addr.mk.injEq] at h1
  obtain ⟨rfl, rfl, _⟩ := h1
  refine ⟨g, o, rfl, h2, by simpa using h3, fun p hp => ?_⟩
  by_cases q : p = 1
  · subst q
    rw [show (fun p => if p = 1 then u else F p) 1 = u from if_pos rfl]
    exact World.cell?_setCell_same _ _ _ (u := .int .i64 (F 1)) (h4 1 hp)
  · rw [show (fun p => if p = 1 then u else F p) p = F p from if_neg q]
    exact (World.cell?_setCell_other _ _ _ _ (fun e => q (by have := congrArg Addr.off e; simp at this; omega))).trans (h4 p hp)
set_option maxRecDepth 100000 in
set_option maxHeartbeats 2000000 in
theorem l11Bent_any (w : World) (b : Nat) (o : Option Addr) (len cap : Nat) (a : Int) (h : Src w b o len cap a) (ha : a ≤ 400000) (hl : len ≤ 1048576) :
    Calls Try.prog 30 #[.pointer (some ⟨b, 0, none⟩)] w fun e w' => ∃ (n : Nat) (ao : Option Addr) (cp : Nat) (a1 : Int), e = .returned (.slice ao n cp) ∧ n ≤ 9 ∧ a1 ≤ a + 90 ∧ DrQ w b o len cap n (.slice ao n cp) a1 w' := by
  have H : Hid (Src w b o len cap a) := h
  have hbl := h.lt
  clear h
  obtain ⟨i0, hi, iz0, iz1, iz2⟩ := info_parts infoz_Pair
  go_enter Try.func30, Try.ntmps30
  go_wp2_with fail
  refine (l11Right_any _ b o len cap a H.out (by omega) hl).mono ?_
  rintro e w1 ⟨L, ao, cp, a1, rfl, hL, ha1, D1⟩
  have D1 : Hid (DrP w b o len cap L (.slice ao L.length cp) a1 w1) := D1
  obtain ⟨N, hN⟩ : ∃ N, L.length = N := ⟨_, rfl⟩
  have HN : Hid (L.length = N) := hN
  have hpos := D1.out.src.pos
  rw [hN] at hL
  rw [hN]
  go_wp2_with fail
  refine (l1Next_any _ b o len cap a1 10 D1.out.src (by omega) hl).mono ?_
  rintro e w2 ⟨q, rfl, q0, q1, hS2, hT2⟩
  have D2 : Hid (Own w2 w.heap.size 65 2 N (rowL L) (.slice ao N cp) ∧ Src w2 b o len cap (a1 + 1) ∧ But b w w2) := by
    have := own_but D1.out.own hT2 hbl
    rw [hN] at this
    exact ⟨this, hS2, D1.out.but.trans hT2⟩
  have hz2 : w.heap.size ≤ w2.heap.size := D2.out.2.2.size
  clear hS2 hT2 D1 q1 hN
  by_cases h0 : q = 0
  · subst h0
    have hIx0 : Hid (Ints (w2.alloc (.cells #[.int .i64 189, .int .i64 5, .int .i64 0] 2)) w2.heap.size (.slice (some ⟨w2.heap.size, 0, none⟩) 3 3) [189, 5, 0]) := World.ownsRow_lit w2 #[.int .i64 189, .int .i64 5, .int .i64 0] 3 (Nat.le_refl _) (by decide) rfl
    go_wp2_with fail
    refine (l1Pick_any _ b o len cap (a1 + 1) _ w2.heap.size [189, 5, 0] (D2.out.2.1.alloc _) (by omega) hl hIx0.out D2.out.2.1.lt (by simp) (by simp)).mono ?_
    rintro e w3 ⟨x0, rfl, _, hSx0, hTx0⟩
    have D3 : Hid (Own w3 w.heap.size 65 2 N (rowL L) (.slice ao N cp) ∧ Src w3 b o len cap (a1 + 1 + 1) ∧ But b w w3) := ⟨own_but (D2.out.1.alloc _) hTx0 hbl, hSx0, (D2.out.2.2.alloc _).trans hTx0⟩
    clear hSx0 hTx0 D2 hIx0
    have hIx1 : Hid (Ints (w3.alloc (.cells #[.int .i64 5, .int .i64 (-1), .int .i64 10000] 2)) w3.heap.size (.slice (some ⟨w3.heap.size, 0, none⟩) 3 3) [5, -1, 10000]) := World.ownsRow_lit w3 #[.int .i64 5, .int .i64 (-1), .int .i64 10000] 3 (Nat.le_refl _) (by decide) rfl
    go_wp2_with fail
    refine (l1Pick_any _ b o len cap (a1 + 1 + 1) _ w3.heap.size [5, -1, 10000] (D3.out.2.1.alloc _) (by omega) hl hIx1.out D3.out.2.1.lt (by simp) (by simp)).mono ?_
    rintro e w4 ⟨x1, rfl, _, hSx1, hTx1⟩
    have D4 : Hid (Own w4 w.heap.size 65 2 N (rowL L) (.slice ao N cp) ∧ Src w4 b o len cap (a1 + 1 + 1 + 1) ∧ But b w w4) := ⟨own_but (D3.out.1.alloc _) hTx1 hbl, hSx1, (D3.out.2.2.alloc _).trans hTx1⟩
    have hz4 : w.heap.size ≤ w4.heap.size := D4.out.2.2.size
    have OM : Hid (OwnM w4 w.heap.size 65 2 (.slice ao N cp) N (flatL L)) := by
      have := own_ownP (L := L) (by rw [HN.out]; exact D4.out.1)
      rwa [HN.out] at this
    clear hSx1 hTx1 D3 hIx1
    go_wp2_with (at_builtin; refine wpList_app 65 i0 (.agg #[.int .i64 0, .int .i64 0]) 2 16 rfl _ _ 24 rfl Try.underlying24 hi iz0 iz1 iz2 rfl (by omega) (by omega) _ w.heap.size N (flatL L) (.slice ao N cp) rfl (OM.out.later (below_alloc _ _)) 0 1 (fun p => [x0, x1].getD p 0) (.slice (some ⟨w4.heap.size, 0, none⟩) 1 1) rfl (row_lit2 w4 x0 x1 65) (by omega) (by simp; omega) ?_; intro ao5 cp5 w5 O5 G5)
    have K5 := Src.keepT H.out (D4.out.2.1.alloc (.cells #[.int .i64 x0, .int .i64 x1] 65)) (D4.out.2.2.alloc _) G5 (fun r e => (OM.out.block r e).1)
    have HQ : Hid (DrQ w b o len cap (N + 1) (.slice ao5 (N + 1) cp5) (a1 + 1 + 1 + 1) w5) := by
      have e1 : (flatL L ++ nums (fun p => [x0, x1].getD p 0) (1 * 2)).length = (N + 1) * 2 := by rw [List.length_append, flatL_length, HN.out, nums_length]; omega
      exact ⟨⟨_, (O5.own e1).row.1⟩, K5.1, K5.2⟩
    clear O5 G5 K5 OM
    go_wp2
    go_ret
    exact ⟨N + 1, ao5, cp5, a1 + 1 + 1 + 1, rfl, by omega, by omega, HQ.out⟩
  have d0 : (q == 0) = false := beq_eq_false_iff_ne.2 h0
  by_cases h1 : q = 1
  · subst h1
    by_cases hN0 : 0 < N
    · have dN : decide ((N : Int) > 0) = true := decide_eq_true (by omega)
      have HR2 : Hid (Row w2 w.heap.size 2 N (rowL L) (.slice ao N cp)) := D2.out.1.row.1
      obtain ⟨g, oo, hao, hgB, hg, y0, y1⟩ := HR2.out.at2 hN0
      subst hao
      have fr : w2.frozen? ⟨g, oo + 1, none⟩ = false := by
        rcases D2.out.1.parts with ⟨_, e0⟩ | ⟨g', c', e0, _, _, _, hbk, _⟩
        · omega
        · simp only [Value.slice.injEq, Option.some.injEq, Addr.mk.injEq] at e0
          obtain ⟨⟨rfl, _⟩, _⟩ := e0
          exact hbk.frozen _
      simp only [Nat.zero_mul, Nat.add_zero] at y0 y1
      have HQ : Hid (DrQ w b o len cap N (.slice (some ⟨g, oo, none⟩) N cp) (a1 + 1) (w2.setCell ⟨g, oo + 1, none⟩ (.int .i64 (-1)))) := ⟨⟨_, row_set1 HR2.out (-1)⟩, Src.setNew H.out D2.out.2.1 D2.out.2.2 hgB _ _, But.setNew D2.out.2.2 hgB _ _⟩
      clear D2 HR2
      go_wp2
      go_ret
      exact ⟨N, _, cp, a1 + 1, rfl, by omega, by omega, HQ.out⟩
    · obtain rfl : N = 0 := by omega
      go_wp2
      go_ret
      exact ⟨0, ao, cp, a1 + 1, rfl, by omega, by omega, ⟨_, D2.out.1.row.1⟩, D2.out.2.1, D2.out.2.2⟩
  have d1 : (q == 1) = false := beq_eq_false_iff_ne.2 h1
  go_wp2
  go_ret
  exact ⟨N, ao, cp, a1 + 1, rfl, by omega, by omega, ⟨_, D2.out.1.row.1⟩, D2.out.2.1, D2.out.2.2⟩
end Go.Proofs.Ytdbcmckoiacemaa

namespace Go.Proofs.Ytdbcmckoiacemaa
open Go.RowKit

def DrawnA (w : World) (e : Ending) (w' : World) : Prop := ∃ (n ni : Nat) (F Fi : Nat → Int) (ao : Option Addr) (cp : Nat) (bo : Option Addr) (bp : Nat), e = .returned (.tuple #[.slice ao n cp, .slice bo ni bp]) ∧ n ≤ 1000 ∧ ni ≤ 1000 ∧ Row w' w.heap.size 2 n F (.slice ao n cp) ∧ Row w' w.heap.size 3 ni Fi (.slice bo ni bp) ∧ Below w.heap.size w w'
theorem made39 : madeCells #[.int .i64 0, .int .i64 0, .int .i64 0] 39 = Array.replicate 39 (.int .i64 0) := by kernel_rfl
theorem row_made13 (w : World) (t : TypeId) {B : Nat} (hB : B ≤ w.heap.size) : Row (w.alloc (.cells (madeCells #[.int .i64 0, .int .i64 0, .int .i64 0] 39) t)) B 3 13 (fun _ => 0) (.slice (some ⟨w.heap.size, 0, none⟩) 13 13) := by
  refine ⟨_, _, rfl, fun _ => ⟨w.heap.size, 0, rfl, hB, by simp, fun p hp => ?_⟩⟩
  rw [Nat.zero_add, World.cell?_alloc_mark, made39]
  simp [show p < 39 by omega]
/-- What stands while it is drawn: the pairs, the items, the source. -/
structure DrA (w1 : World) (b : Nat) (o : Option Addr) (len cap : Nat) (n : Nat) (v : Value) (ni : Nat) (L : List Int) (y : Value) (B2 : Nat) (a : Int) (x : World) : Prop where
  row : ∃ F, Row x w1.heap.size 2 n F v
  own : OwnM x B2 36 3 y ni L
  src : Src x b o len cap a
  but : But b w1 x
  size : B2 ≤ x.heap.size
  lt : 0 < n → ∀ k, v.ownBlock = some k → k < B2
theorem DrA.step {w1 : World} {b : Nat} {o : Option Addr} {len cap n ni B2 : Nat} {v y : Value} {L : List Int} {a a' : Int} {x x' : World} (h : DrA w1 b o len cap n v ni L y B2 a x) (hb : b < w1.heap.size) (hB : w1.heap.size ≤ B2) (hT : But b x x') (hS : Src x' b o len cap a') : DrA w1 b o len cap n v ni L y B2 a' x' := by
  obtain ⟨F, hF⟩ := h.row
  exact ⟨⟨F, hF.turnedC hT hb⟩, h.own.but hT (by omega), hS, h.but.trans hT, Nat.le_trans h.size hT.size, h.lt⟩
theorem DrA.alloc {w1 : World} {b : Nat} {o : Option Addr} {len cap n ni B2 : Nat} {v y : Value} {L : List Int} {a : Int} {x : World} (h : DrA w1 b o len cap n v ni L y B2 a x) (ob : Obj) : DrA w1 b o len cap n v ni L y B2 a (x.alloc ob) := by
  obtain ⟨F, hF⟩ := h.row
  exact ⟨⟨F, hF.alloc _⟩, h.own.later (below_alloc _ _), h.src.alloc _, h.but.alloc _, by have := h.size; simp; omega, h.lt⟩
theorem but_below {w w1 x : World} (h : Below w.heap.size w w1) (hT : But w.heap.size w1 x) : Below w.heap.size w x :=
  ⟨hT.os.trans h.os, hT.tape.trans h.tape, hT.output.trans h.output, Nat.le_trans h.size hT.size, fun i hi => (hT.block i (Nat.lt_of_lt_of_le hi h.size) (fun e => by cases e; omega)).trans (h.block i hi)⟩
set_option maxRecDepth 100000 in
set_option maxHeartbeats 2000000 in
theorem drawApply_any (w : World) (o : Option Addr) (len cap : Nat) (h : Code w o len) (hl : len ≤ 1048576) :
    Calls Try.prog 8 #[.slice o len cap] w (DrawnA w) := by
  have H : Hid (Code w o len) := h
  clear h
  obtain ⟨i1, hi1, iz01, iz11, iz21⟩ := info_parts infoz_Item
  have hmk : ∀ w : World, (Instr.makeSlice 25 (.int .i64 13) (.int .i64 13)).run Try.prog w = .ok (.slice (some ⟨w.heap.size, 0, none⟩) 13 13) (w.alloc (.cells (madeCells #[.int .i64 0, .int .i64 0, .int .i64 0] 39) 36)) := make_rowT Try.underlying25 infoz_Item 13 (by omega) (by omega)
  go_enter Try.func8, Try.ntmps8
  go_wp2_with fail
  refine (l1Source_any _ o len cap H.out).mono ?_
  rintro e w1 ⟨rfl, hS, hb, hz⟩
  have S1 : Hid (Src w1 w.heap.size o len cap 0) := hS
  have B1 : Hid (Below w.heap.size w w1) := hb
  have hbl : w.heap.size < w1.heap.size := by omega
  clear hS hb
  go_wp2_with fail
  refine (l11Bent_any _ w.heap.size o len cap 0 S1.out (by omega) hl).mono ?_
  rintro e w2 ⟨n, ao, cp, a1, rfl, hn, ha1, D2⟩
  have D2 : Hid (DrQ w1 w.heap.size o len cap n (.slice ao n cp) a1 w2) := D2
  have hp1 := D2.out.src.pos
  go_wp2_with fail
  refine (l8Items_any _ w.heap.size o len cap a1 D2.out.src (by omega) hl).mono ?_
  rintro e w3 ⟨ni, bo, bp, a2, rfl, hni, ha2, D3⟩
  obtain ⟨F, hF⟩ := D2.out.row
  obtain ⟨L2, hL2⟩ := D3.own
  have hp2 := D3.src.pos
  have hB2 : Hid (w1.heap.size ≤ w2.heap.size) := D2.out.but.size
  have D : Hid (DrA w1 w.heap.size o len cap n (.slice ao n cp) ni L2 (.slice bo ni bp) w2.heap.size a2 w3) := ⟨⟨F, hF.turnedC D3.but hbl⟩, hL2, D3.src, D2.out.but.trans D3.but, D3.but.size, fun h0 k hk => (hF.lt h0 k hk).2⟩
  clear D2 D3 hF hL2
  go_wp2_with fail
  refine (l1Next_any _ w.heap.size o len cap a2 10 D.out.src (by omega) hl).mono ?_
  rintro e w4 ⟨q, rfl, q0, q1, hS, hT⟩
  have D4 : Hid (DrA w1 w.heap.size o len cap n (.slice ao n cp) ni L2 (.slice bo ni bp) w2.heap.size (a2 + 1) w4) := D.out.step hbl hB2.out hT hS
  clear hS hT D q1
  by_cases h0 : q = 0
  · subst h0
    go_wp2_with fail
    refine (l1Bent_any _ w.heap.size o len cap (a2 + 1) D4.out.src (by omega) hl).mono ?_
    rintro e w5 ⟨key, rfl, _, _, hS, hT⟩
    have D5 : Hid (DrA w1 w.heap.size o len cap n (.slice ao n cp) ni L2 (.slice bo ni bp) w2.heap.size (a2 + 1 + 17) w5) := D4.out.step hbl hB2.out hT hS
    clear hS hT D4
    have hIkd : Hid (Ints (w5.alloc (.cells #[.int .i64 3, .int .i64 1, .int .i64 4] 2)) w5.heap.size (.slice (some ⟨w5.heap.size, 0, none⟩) 3 3) [3, 1, 4]) := World.ownsRow_lit w5 #[.int .i64 3, .int .i64 1, .int .i64 4] 3 (Nat.le_refl _) (by decide) rfl
    go_wp2_with fail
    refine (l1Pick_any _ w.heap.size o len cap (a2 + 1 + 17) _ w5.heap.size [3, 1, 4] (D5.out.src.alloc _) (by omega) hl hIkd.out D5.out.src.lt (by simp) (by simp)).mono ?_
    rintro e w6 ⟨kd, rfl, _, hS, hT⟩
    have D6 : Hid (DrA w1 w.heap.size o len cap n (.slice ao n cp) ni L2 (.slice bo ni bp) w2.heap.size (a2 + 1 + 17 + 1) w6) := (D5.out.alloc _).step hbl hB2.out hT hS
    clear hS hT D5 hIkd
    have hIvv : Hid (Ints (w6.alloc (.cells #[.int .i64 0, .int .i64 5, .int .i64 (-1)] 2)) w6.heap.size (.slice (some ⟨w6.heap.size, 0, none⟩) 3 3) [0, 5, -1]) := World.ownsRow_lit w6 #[.int .i64 0, .int .i64 5, .int .i64 (-1)] 3 (Nat.le_refl _) (by decide) rfl
    go_wp2_with fail
    refine (l1Pick_any _ w.heap.size o len cap (a2 + 1 + 17 + 1) _ w6.heap.size [0, 5, -1] (D6.out.src.alloc _) (by omega) hl hIvv.out D6.out.src.lt (by simp) (by simp)).mono ?_
    rintro e w7 ⟨vv, rfl, _, hS, hT⟩
    have D7 : Hid (DrA w1 w.heap.size o len cap n (.slice ao n cp) ni L2 (.slice bo ni bp) w2.heap.size (a2 + 1 + 17 + 1 + 1) w7) := (D6.out.alloc _).step hbl hB2.out hT hS
    have hsz : w2.heap.size ≤ w7.heap.size := D7.out.size
    have hB2' := hB2.out
    clear hS hT D6 hIvv
    go_wp2_with (at_builtin; refine wpList_appX 36 i1 (.agg #[.int .i64 0, .int .i64 0, .int .i64 0]) 3 24 rfl _ _ 25 rfl Try.underlying25 hi1 iz01 iz11 iz21 rfl (by omega) (by omega) _ w2.heap.size ni L2 (.slice bo ni bp) rfl (D7.out.own.later (below_alloc _ _)) 0 1 (fun p => [key, kd, vv].getD p 0) _ rfl (row_litT _ key kd vv _ _ (by simp)) (by omega) (by simp; omega) ?_; intro ao8 cp8 w8 O8 G8 _)
    have HQ : Hid (DrawnA w (.returned (.tuple #[.slice ao n cp, .slice ao8 (ni + 1) cp8])) w8) := by
      obtain ⟨F', hF'⟩ := D7.out.row
      refine ⟨n, ni + 1, F', _, ao, cp, ao8, cp8, rfl, by omega, by omega, ?_, O8.rowL.1.mono ?_, ?_⟩
      · exact ((hF'.alloc _).turned G8 (fun h0 k hk e => by have := D7.out.lt h0 k hk; have := (D7.out.own.block k e.symm).1; omega)).mono (by omega)
      · omega
      · exact ((but_below B1.out D7.out.but).alloc (by omega) _).grown G8 (by simp; omega) (fun r e => by have := (D7.out.own.block r e).1; omega)
    clear O8 G8 D7
    go_wp2
    go_ret2
    exact HQ.out
  have d0 : (q == 0) = false := beq_eq_false_iff_ne.2 h0
  by_cases h1 : q = 1
  · subst h1
    go_wp2
    go_ret2
    obtain ⟨F', hF'⟩ := D4.out.row
    exact ⟨n, 13, F', fun _ => 0, ao, cp, _, _, rfl, by omega, by omega, (hF'.alloc _).mono (by omega), row_made13 w4 _ (Nat.le_trans B1.out.size D4.out.but.size), (but_below B1.out D4.out.but).alloc (Nat.le_trans B1.out.size D4.out.but.size) _⟩
  have d1 : (q == 1) = false := beq_eq_false_iff_ne.2 h1
  go_wp2
  go_ret2
  obtain ⟨F', hF'⟩ := D4.out.row
  exact ⟨n, ni, F', _, ao, cp, bo, bp, rfl, by omega, by omega, hF'.mono (by omega), D4.out.own.rowL.1.mono (by have := hB2.out; omega), but_below B1.out D4.out.but⟩
end Go.Proofs.Ytdbcmckoiacemaa

namespace Go.Proofs.Ytdbcmckoiacemaa
open Go.RowKit

/-- Two rows are alike. -/
def AlikeP (m n : Nat) (F : Nat → Int) (n' : Nat) (G : Nat → Int) : Prop := n = n' ∧ ∀ p, p < n * m → F p = G p
/-- Of the first k elements all numbers are alike. -/
def UptoP (N : Nat) (F G : Nat → Int) : Prop := ∀ p, p < N → F p = G p
theorem neqPair (x0 x1 y0 y1 : Int) (r : Bool) (hr : decide (x0 = y0 ∧ x1 = y1) = r) (w : World) : (binOp .neq 65 (.agg #[.int .i64 x0, .int .i64 x1]) (.agg #[.int .i64 y0, .int .i64 y1])).run Try.prog w = .ok (.bool (!r)) w := by
  have hS : Try.prog.underlying 65 = some (.struct (Try.prog.fieldsOf 65)) := by kernel_rfl
  have hp : Try.prog.stoodInHeld 65 = false := by kernel_rfl
  have u2 := Try.underlying2
  have a2 := Try.isAgg2
  have z2 := Try.sizeOf2
  rw [run_neq_struct, show (10000 : Nat) = 9999 + 1 from rfl, run_equalIn_agg w 9999 _ _ _ hS hp]
  simp only [Program.fieldsOf, Try.underlying65]
  subst hr
  go_simp
  by_cases h0 : x0 = y0 <;> by_cases h1 : x1 = y1 <;> simp [h0, h1]

theorem uptoPair {k : Nat} {F G : Nat → Int} (hU : Hid (UptoP (k * 2) F G)) (he : F (k * 2) = G (k * 2) ∧ F (k * 2 + 1) = G (k * 2 + 1)) : UptoP ((k + 1) * 2) F G := fun p hp => by
        rcases Nat.lt_or_ge p (k * 2) with h | h
        · exact hU.out p h
        · obtain rfl | rfl : p = k * 2 ∨ p = k * 2 + 1 := by omega
          · exact he.1
          · exact he.2

set_option maxHeartbeats 1000000 in
theorem equalPair_any (va vb : Value) (Ba Bb n n' : Nat) (F G : Nat → Int) (r : Bool) (w : World) (ha : Row w Ba 2 n F va) (hb : Row w Bb 2 n' G vb) (hn : n ≤ 1048576) (hn' : n' ≤ 1048576) (hr : r = true ↔ AlikeP 2 n F n' G) :
    Calls Try.prog 47 #[va, vb] w fun e w' => e = .returned (.bool r) ∧ ∃ q, w' = w.drewN q := by
  obtain ⟨ao, ca, rfl⟩ := ha.form
  obtain ⟨bo, cb, rfl⟩ := hb.form
  have HA : Hid (Row w Ba 2 n F (.slice ao n ca)) := ha
  have HB : Hid (Row w Bb 2 n' G (.slice bo n' cb)) := hb
  have HR : Hid (r = true ↔ AlikeP 2 n F n' G) := hr
  clear ha hb hr
  have hgd : Try.prog.eqGuardType Try.prog.depth 65 = false := by kernel_rfl
  by_cases hne : n = n'
  case neg =>
    have E : Hid (r = false) := by
      cases r with
      | false => rfl
      | true => exact absurd (HR.out.1 rfl).1 hne
    have d : ((n : Int) != (n' : Int)) = true := bne_iff_ne.2 (by omega)
    clear hne hn hn' hgd HA HB HR
    go_enter Try.func47, Try.ntmps47
    go_wp2
    go_ret
    exact ⟨by rw [E.out]; rfl, 0, rfl⟩
  subst hne
  go_enter Try.func47, Try.ntmps47
  go_wp2
  go_loopw [13] (fun i wr => ∃ k q : Nat, k ≤ n ∧ i = .int .i64 k ∧ Hid (UptoP (k * 2) F G) ∧ wr = w.drewN q) (fun i _ => n - (intOf i).toNat)
  case atStart => exact ⟨0, 0, Nat.zero_le _, rfl, fun p hp => absurd hp (by omega), rfl⟩
  case round =>
    obtain ⟨k, q, hk, rfl, hU, rfl⟩ := hrel
    by_cases hlt : k < n
    · obtain ⟨g, o, rfl, _, hg, c0, c1⟩ := HA.out.at2 hlt
      obtain ⟨g', o', rfl, _, hg', d0, d1⟩ := HB.out.at2 hlt
      by_cases he : F (k * 2) = G (k * 2) ∧ F (k * 2 + 1) = G (k * 2 + 1)
      · have hq := neqPair (F (k * 2)) (F (k * 2 + 1)) (G (k * 2)) (G (k * 2 + 1)) true (decide_eq_true he)
        have hU2 : Hid (UptoP ((k + 1) * 2) F G) := uptoPair hU he
        clear he hU
        go_wp2
        go_quiet (fail)
        go_wp2
        go_roundw
        case rel => exact ⟨k + 1, _, by omega, by go_num, hU2, rfl⟩
        case measure => simp [intOf]; omega
      · have hq := neqPair (F (k * 2)) (F (k * 2 + 1)) (G (k * 2)) (G (k * 2 + 1)) false (decide_eq_false he)
        have E : Hid (r = false) := by
          cases r with
          | false => rfl
          | true =>
            have h := (HR.out.1 rfl).2
            exact absurd ⟨h _ (by omega), h _ (by omega)⟩ he
        clear he hU
        go_wp2
        go_quiet (fail)
        go_wp2
        go_ret
        exact ⟨by rw [E.out]; rfl, _, World.drewN_drewN _ _ _⟩
    · obtain rfl : k = n := by omega
      have E : Hid (r = true) := HR.out.2 ⟨rfl, hU.out⟩
      clear hU
      go_wp2
      go_ret
      exact ⟨by rw [E.out]; rfl, _, rfl⟩

theorem implSamePairs_any (va vb : Value) (Ba Bb n n' : Nat) (F G : Nat → Int) (r : Bool) (w : World) (ha : Row w Ba 2 n F va) (hb : Row w Bb 2 n' G vb) (hn : n ≤ 1048576) (hn' : n' ≤ 1048576) (hr : r = true ↔ AlikeP 2 n F n' G) :
    Calls Try.prog 14 #[va, vb] w fun e w' => e = .returned (.bool r) ∧ ∃ q, w' = w.drewN q := by
  have H : Hid (Row w Ba 2 n F va ∧ Row w Bb 2 n' G vb ∧ (r = true ↔ AlikeP 2 n F n' G)) := ⟨ha, hb, hr⟩
  clear ha hb hr
  go_enter Try.func14, Try.ntmps14
  go_wp2_with fail
  refine (equalPair_any _ _ _ _ _ _ _ _ r _ H.out.1 H.out.2.1 hn hn' H.out.2.2).mono ?_
  rintro e w1 ⟨rfl, q, rfl⟩
  go_wp2
  go_ret
  exact ⟨rfl, q, rfl⟩
end Go.Proofs.Ytdbcmckoiacemaa

namespace Go.Proofs.Ytdbcmckoiacemaa
open Go.RowKit

theorem lookF_cons (e : Int × Int) (t : Prs) (k : Int) : lookF (e :: t) k = if e.1 = k then (true, e.2) else lookF t k := by
  unfold lookF
  by_cases h : e.1 = k
  · rw [List.find?_cons_of_pos (by simpa using h), if_pos h]
  · rw [List.find?_cons_of_neg (by simpa using h), if_neg h]
theorem look_gone (L : Prs) (k key : Int) : lookF (gonePr L k) key = if key = k then (false, 0) else lookF L key := by
  induction L with
  | nil => simp [gonePr, lookF]
  | cons e t ih =>
    unfold gonePr at ih ⊢
    by_cases h : e.1 = k
    · rw [List.filter_cons_of_neg (by simp [h]), ih, lookF_cons]
      by_cases hk : key = k
      · rw [if_pos hk, if_pos hk]
      · rw [if_neg hk, if_neg hk, if_neg (by omega)]
    · rw [List.filter_cons_of_pos (by simp [h]), lookF_cons, ih, lookF_cons]
      by_cases hk : key = k
      · rw [if_pos hk, if_pos hk, if_neg (by omega)]
      · rw [if_neg hk, if_neg hk]
theorem look_put (L : Prs) (k v key : Int) : lookF (putPr L k v) key = if key = k then (true, v) else lookF L key := by
  induction L with
  | nil =>
    rw [putPr, lookF_cons]
    by_cases hk : key = k
    · rw [if_pos hk, if_pos hk.symm]
    · rw [if_neg hk, if_neg (fun q => hk q.symm)]
  | cons e t ih =>
    rw [putPr]
    split
    · rw [lookF_cons, look_gone]
      by_cases hk : key = k
      · subst hk
        simp
      · rw [if_neg hk, if_neg (fun q => hk q.symm), if_neg hk]
    · rw [lookF_cons, ih, lookF_cons]
      by_cases hk : key = k
      · rw [if_pos hk, if_pos hk, if_neg (by omega)]
      · rw [if_neg hk, if_neg hk]
theorem look_step (L : Prs) (k kd v key : Int) : lookF (stepA L k kd v) key = if k = key ∧ kd = 1 then (true, v) else if k = key ∧ kd = 2 then (false, 0) else lookF L key := by
  unfold stepA
  by_cases h1 : kd = 1
  · rw [if_pos h1, look_put]
    by_cases hk : k = key
    · rw [if_pos hk.symm, if_pos ⟨hk, h1⟩]
    · rw [if_neg (fun q => hk q.symm), if_neg (fun q => hk q.1), if_neg (fun q => hk q.1)]
  · rw [if_neg h1, if_neg (c := k = key ∧ kd = 1) (fun q => h1 q.2)]
    by_cases h2 : kd = 2
    · rw [if_pos h2, look_gone]
      by_cases hk : k = key
      · rw [if_pos hk.symm, if_pos ⟨hk, h2⟩]
      · rw [if_neg (fun q => hk q.symm), if_neg (fun q => hk q.1)]
    · rw [if_neg h2, if_neg (fun q => h2 q.2)]
/-- A pair without a fault. -/
def okP (e : Int × Int) : Prop := faultOf e.1 = 0 ∧ (0 ≤ e.2 ∧ e.2 ≤ 9999)
theorem ok_list {F : Nat → Int} {n : Nat} (h : pairsF F n 0 = 0) : ∀ e ∈ listOf F n, okP e := fun e he => by
  simp only [listOf, List.mem_map, List.mem_range] at he
  obtain ⟨k, hk, rfl⟩ := he
  have := pairsF_all h k hk
  rw [Nat.zero_add] at this
  have h2 := pairF_zero this
  exact ⟨h2.1, h2.2.1⟩
theorem ok_apply {L : Prs} {G : Nat → Int} (hL : ∀ e ∈ L, okP e) : ∀ m, (∀ i, i < m → faultOf (G (i * 3)) = 0 ∧ (0 ≤ G (i * 3 + 2) ∧ G (i * 3 + 2) ≤ 9999)) → ∀ e ∈ applyN L G m, okP e
  | 0, _ => hL
  | m + 1, h => fun e he => by
    have ih := ok_apply hL m (fun i hi => h i (by omega))
    rw [applyN, stepA] at he
    split at he
    · rcases putPr_mem he with rfl | q
      · exact h m (by omega)
      · exact ih e q
    · split at he
      · exact ih e (List.mem_filter.1 he).1
      · exact ih e he
theorem listOf_rowL (R : Prs) : listOf (rowL R) R.length = R := by
  refine List.ext_getElem (listOf_length _ _) fun i h1 h2 => ?_
  simp only [listOf, List.getElem_map, List.getElem_range, rowL_key, rowL_val]
  simp [List.getD, h2]
theorem pairs_ok {R : Prs} (hr : Rises R) (ho : ∀ e ∈ R, okP e) : pairsF (rowL R) R.length 0 = 0 := by
  have hone : ∀ k, k < R.length → pairF (rowL R) k = 0 := fun k hk => by
    have hg : R.getD k (0, 0) = R[k] := by simp [List.getD, hk]
    have h1 := ho R[k] (List.getElem_mem hk)
    refine pairF_ok (p := rowL R ((k - 1) * 2)) (rowL_key R k) (rowL_val R k) rfl (by rw [hg]; exact h1.1) (by rw [hg]; exact h1.2) (fun q => ?_)
    have hk1 : k - 1 < R.length := by omega
    have h2 := List.pairwise_iff_getElem.1 hr (k - 1) k hk1 hk (by omega)
    have h3 := q.2
    rw [rowL_key, hg, show R.getD (k - 1) (0, 0) = R[k - 1] by simp [List.getD, hk1]] at h3
    omega
  have hall : ∀ m k, k + m = R.length → pairsF (rowL R) m k = 0 := fun m => by
    induction m with
    | zero => intro k _; rfl
    | succ m ih =>
      intro k hk
      rw [pairsF_on (by omega) (hone k (by omega))]
      exact ih (k + 1) (by omega)
  exact hall R.length 0 (by omega)
/-- What ValueIn answers of pairs without a fault. -/
theorem valAns_ok {n : Nat} {F : Nat → Int} {key : Int} (h : pairsF F n 0 = 0) (hk : faultOf key = 0) : ValAns n F key 0 (lookF (listOf F n) key).2 (lookF (listOf F n) key).1 := Or.inr (Or.inr ⟨h, hk, rfl, rfl⟩)
theorem lwBigP_is (o : Option Addr) (len cap : Nat) (r : Bool) (w : World) (h : decide ((1048576 : Int) < (len : Int)) = r) :
    Calls Try.prog 7 #[.slice o len cap] w fun e w' => e = .returned (.bool r) ∧ w' = w := by
  go_enter Try.func7, Try.ntmps7
  go_wp2
  go_ret
  exact ⟨by first | rfl | (rw [← h]; rfl), rfl⟩
theorem field_pr0 (c : Int) (ao : Option Addr) (n cp : Nat) (w : World) : (Instr.field 29 (.agg #[.int .i64 c, .slice ao n cp]) 0).run Try.prog w = .ok (.int .i64 c) w := by kernel_rfl
theorem field_pr1 (c : Int) (ao : Option Addr) (n cp : Nat) (w : World) : (Instr.field 29 (.agg #[.int .i64 c, .slice ao n cp]) 1).run Try.prog w = .ok (.slice ao n cp) w := by kernel_rfl
theorem neqGet (c v : Int) (has : Bool) (w : World) : (binOp .neq 33 (.agg #[.int .i64 c, .bool has, .int .i64 v]) (.agg #[.int .i64 c, .bool has, .int .i64 v])).run Try.prog w = .ok (.bool false) w := by
  have hS : Try.prog.underlying 33 = some (.struct (Try.prog.fieldsOf 33)) := by kernel_rfl
  have hp : Try.prog.stoodInHeld 33 = false := by kernel_rfl
  have u2 := Try.underlying2
  have a2 := Try.isAgg2
  have z2 := Try.sizeOf2
  have u3 := Try.underlying4
  have a3 := Try.isAgg4
  have z3 := Try.sizeOf4
  rw [run_neq_struct, show (10000 : Nat) = 9999 + 1 from rfl, run_equalIn_agg w 9999 _ _ _ hS hp]
  simp only [Program.fieldsOf, Try.underlying33]
  go_simp
  try simp
end Go.Proofs.Ytdbcmckoiacemaa

namespace Go.Proofs.Ytdbcmckoiacemaa
open Go.RowKit

/-- What stands while the law looks: what was drawn, and what came of it, in block b. -/
structure EnvM (w : World) (b : Nat) (c : Int) (n : Nat) (F : Nat → Int) (v : Value) (ni : Nat) (G : Nat → Int) (y : Value) (R : Prs) (rv : Value) (x : World) : Prop where
  below : Below w.heap.size w x
  kr : Blk2 x b (.int .i64 c) rv
  pairs : Row x 0 2 n F v
  items : Row x 0 3 ni G y
  res : Row x 0 2 R.length (rowL R) rv
theorem EnvM.later {w : World} {b : Nat} {c : Int} {n : Nat} {F : Nat → Int} {v : Value} {ni : Nat} {G : Nat → Int} {y : Value} {R : Prs} {rv : Value} {x x' : World} (h : EnvM w b c n F v ni G y R rv x) (hb : Below x.heap.size x x') : EnvM w b c n F v ni G y R rv x' :=
  ⟨h.below.trans (hb.mono h.below.size), h.kr.later hb, h.pairs.later hb, h.items.later hb, h.res.later hb⟩
set_option maxRecDepth 100000 in
set_option maxHeartbeats 8000000 in
theorem fnModels_walk (o : Option Addr) (len cap : Nat) (w : World) (hc : Code w o len) (hl0 : len ≤ maxLen) :
    Calls Try.prog 3 #[.slice o len cap] w fun e w' => e = .returned (.bool true) ∧ Below w.heap.size w w' := by
  have hml : maxLen = 9223372036854775807 := rfl
  by_cases hbig : (1048576 : Int) < len
  · have d : decide ((1048576 : Int) < (len : Int)) = true := decide_eq_true hbig
    go_enter Try.func3, Try.ntmps3
    go_wp2_with fail
    refine (lwBigP_is _ _ _ _ _ d).mono ?_
    rintro e w9 ⟨rfl, hw9⟩
    obtain rfl := hw9.symm
    go_wp2
    go_ret
    exact ⟨rfl, Below.refl _ _⟩
  have d : decide ((1048576 : Int) < (len : Int)) = false := decide_eq_false hbig
  have HD : Hid (Calls Try.prog 8 #[.slice o len cap] w (DrawnA w)) := drawApply_any w o len cap hc (by omega)
  clear hc hbig hml hl0
  go_enter Try.func3, Try.ntmps3
  go_wp2_with fail
  refine (lwBigP_is _ _ _ _ _ d).mono ?_
  rintro e w9 ⟨rfl, hw9⟩
  obtain rfl := hw9.symm
  go_wp2_with fail
  refine HD.out.mono ?_
  rintro e w1 ⟨n, ni, F, G, ao, cp, bo, bp, rfl, hn, hni, hF, hG, q1⟩
  have E1 : Hid (Row w1 0 2 n F (.slice ao n cp) ∧ Row w1 0 3 ni G (.slice bo ni bp) ∧ Below w.heap.size w w1) := ⟨hF.mono (Nat.zero_le _), hG.mono (Nat.zero_le _), q1⟩
  clear hF hG q1 HD
  obtain ⟨c, R, hm, hans⟩ := AppAns.get n F ni G
  have HA : Hid (AppAns n F ni G c R) := hans
  clear hans d
  go_wp2_with fail
  refine (implApply_is _ _ 0 0 n ni F G c R _ E1.out.1 E1.out.2.1 (by omega) (by omega) HA.out).mono ?_
  rintro e w2 ⟨ro, rp, rfl, hr, _, q2⟩
  have E2 : Hid (EnvM w w2.heap.size c n F (.slice ao n cp) ni G (.slice bo ni bp) R (.slice ro R.length rp) (w2.alloc (.cells #[.int .i64 c, .slice ro R.length rp] 29))) :=
    ⟨(E1.out.2.2.trans (q2.mono E1.out.2.2.size)).alloc (Nat.le_trans E1.out.2.2.size q2.size) _, Blk2.new w2 _ _ _, (E1.out.1.later q2).alloc _, (E1.out.2.1.later q2).alloc _, (hr.mono (Nat.zero_le _)).alloc _⟩
  clear hr q2 E1
  obtain ⟨RN, hRN⟩ : ∃ RN, R.length = RN := ⟨_, rfl⟩
  have HRN : Hid (R.length = RN) := hRN
  rw [hRN] at E2 hm
  rw [hRN]
  clear hRN
  by_cases hc0 : c = 0
  case neg =>
    have dc : (c != 0) = true := bne_iff_ne.2 hc0
    go_upto_region 6 with fail
    refine wp_region_held_drew (S := EnvM w w2.heap.size c n F (.slice ao n cp) ni G (.slice bo ni bp) R (.slice ro RN rp)) (by kernel_rfl) (E2.out.later (Below.drew (Below.refl _ _))) (fun hS => ?_)
    refine tkH 0 ?_ hS (fun wx hx => ?_) ?_; rotate_left
    · obtain ⟨⟨hx0, hx1⟩, _⟩ := hx.kr; have hf0 := field_pr0 c; have hf1 := field_pr1 c; go_simp; try with_reducible rfl
    refine tkH 1 ?_ hS (fun wx hx => ?_) ?_; rotate_left
    · obtain ⟨⟨hx0, hx1⟩, _⟩ := hx.kr; have hf0 := field_pr0 c; have hf1 := field_pr1 c; go_simp; try with_reducible rfl
    refine tkH 4 ?_ hS (fun wx hx => ?_) ?_; rotate_left
    · obtain ⟨⟨hx0, hx1⟩, _⟩ := hx.kr; have hf0 := field_pr0 c; have hf1 := field_pr1 c; go_simp; try with_reducible rfl
    refine tkH 5 ?_ hS (fun wx hx => ?_) ?_; rotate_left
    · obtain ⟨⟨hx0, hx1⟩, _⟩ := hx.kr; have hf0 := field_pr0 c; have hf1 := field_pr1 c; go_simp; try with_reducible rfl
    try simp only [Act.put, List.getElem_toArray, List.getElem_cons_zero, List.getElem_cons_succ, List.setIfInBounds_toArray, List.set_cons_succ, List.set_cons_zero]
    refine rdH 2 (fun K hK => ?_)
    go_simp
    go_wp2_with fail
    refine (specApply_is _ _ 0 0 n ni F G c R _ hS.pairs hS.items (by omega) (by omega) HA.out).mono ?_
    rintro e w3 ⟨so, sp, rfl, _, _, q3⟩
    have hS3 := hS.later q3
    clear hS q3
    go_wp2_with fail
    refine hK.out _ _ hS3 (fun hS => ?_)
    clear hK K hS3
    refine tkH 3 ?_ hS (fun wx hx => ?_) ?_; rotate_left
    · obtain ⟨⟨hx0, hx1⟩, _⟩ := hx.kr; have hf0 := field_pr0 c; have hf1 := field_pr1 c; go_simp; try with_reducible rfl
    refine tkH 6 ?_ hS (fun wx hx => ?_) ?_; rotate_left
    · obtain ⟨⟨hx0, hx1⟩, _⟩ := hx.kr; have hf0 := field_pr0 c; have hf1 := field_pr1 c; go_simp; try with_reducible rfl
    refine tkH 7 ?_ hS (fun wx hx => ?_) ?_; rotate_left
    · obtain ⟨⟨hx0, hx1⟩, _⟩ := hx.kr; have hf0 := field_pr0 c; have hf1 := field_pr1 c; go_simp; try with_reducible rfl
    refine wpAnyH_done (by kernel_rfl) ?_ _
    go_simp
    go_wp2
    go_ret
    exact ⟨by simp, hS.below⟩
  subst hc0
  have HZ : Hid (pairsF F n 0 = 0 ∧ appliedF ni G = 0 ∧ R = applyN (listOf F n) G ni) := by
    rcases HA.out with ⟨q, q', _⟩ | ⟨_, q, q', _⟩ | ⟨q1, q2, _, q3⟩
    · exact absurd q'.symm q
    · exact absurd q'.symm q
    · exact ⟨q1, q2, q3⟩
  have HL : Hid ((pairsF (rowL R) R.length 0 = 0 ∧ listOf (rowL R) R.length = R) ∧ R.length ≤ 1000) := by
    obtain ⟨z1, z2, z3⟩ := HZ.out
    have hz2 := appliedF_zero z2
    have hr : Rises R := by rw [z3]; exact applyN_rises (pairs_rise z1).1 G ni
    have ho : ∀ e ∈ R, okP e := by
      rw [z3]
      refine ok_apply (ok_list z1) ni (fun i hi => ?_)
      have := appsF_all hz2.2.1 i hi
      rw [Nat.zero_add] at this
      exact ⟨(appF_zero this).1, (appF_zero this).2.2⟩
    refine ⟨⟨pairs_ok hr ho, listOf_rowL R⟩, ?_⟩
    have h1 := applyN_len (listOf F n) G ni
    rw [← z3, listOf_length] at h1
    have h2 := (pairs_rise z1).2
    omega
  go_wp2
  go_loopw [6] (fun i wr => ∃ k : Nat, k ≤ 200 ∧ i = .int .i64 k ∧ Hid (EnvM w w2.heap.size 0 n F (.slice ao n cp) ni G (.slice bo ni bp) R (.slice ro RN rp) wr)) (fun i _ => 200 - (intOf i).toNat)
  case atStart => exact ⟨0, Nat.zero_le _, rfl, E2⟩
  case round =>
    clear E2
    obtain ⟨k, hk, rfl, HE⟩ := hrel
    by_cases hlt : k < 200
    case neg =>
      obtain rfl : k = 200 := by omega
      have HS200 : Hid (EnvM w w2.heap.size 0 n F (.slice ao n cp) ni G (.slice bo ni bp) R (.slice ro RN rp) wr.drew) := HE.out.later (Below.drew (Below.refl _ _))
      go_upto_region 21 with fail
      refine wp_region_held_drew (S := EnvM w w2.heap.size 0 n F (.slice ao n cp) ni G (.slice bo ni bp) R (.slice ro RN rp)) (by kernel_rfl) HS200.out (fun hS => ?_)
      clear HS200 HE
      refine tkH 0 ?_ hS (fun wx hx => ?_) ?_; rotate_left
      · obtain ⟨⟨hx0, hx1⟩, _⟩ := hx.kr; have hf1 := field_pr1 0; go_simp; try with_reducible rfl
      refine tkH 1 ?_ hS (fun wx hx => ?_) ?_; rotate_left
      · obtain ⟨⟨hx0, hx1⟩, _⟩ := hx.kr; have hf1 := field_pr1 0; go_simp; try with_reducible rfl
      try simp only [Act.put, List.getElem_toArray, List.getElem_cons_zero, List.getElem_cons_succ, List.setIfInBounds_toArray, List.set_cons_succ, List.set_cons_zero]
      refine rdH 2 (fun K hK => ?_)
      go_simp
      go_wp2_with fail
      refine (implPairs_any _ 0 R.length (rowL R) _ hS.res (by have := HL.out.2; omega)).mono ?_
      rintro e w3 ⟨rfl, q3⟩
      rw [HL.out.1.1]
      have hS3 := hS.later q3
      clear hS q3
      go_wp2_with fail
      refine hK.out _ _ hS3 (fun hS => ?_)
      clear hK K hS3
      refine tkH 3 ?_ hS (fun wx hx => ?_) ?_; rotate_left
      · obtain ⟨⟨hx0, hx1⟩, _⟩ := hx.kr; have hf1 := field_pr1 0; go_simp; try with_reducible rfl
      refine tkH 4 ?_ hS (fun wx hx => ?_) ?_; rotate_left
      · obtain ⟨⟨hx0, hx1⟩, _⟩ := hx.kr; have hf1 := field_pr1 0; go_simp; try with_reducible rfl
      refine tkH 5 ?_ hS (fun wx hx => ?_) ?_; rotate_left
      · obtain ⟨⟨hx0, hx1⟩, _⟩ := hx.kr; have hf1 := field_pr1 0; go_simp; try with_reducible rfl
      try simp only [Act.put, List.getElem_toArray, List.getElem_cons_zero, List.getElem_cons_succ, List.setIfInBounds_toArray, List.set_cons_succ, List.set_cons_zero]
      refine tkH 6 ?_ hS (fun wx hx => ?_) ?_; rotate_left
      · obtain ⟨⟨hx0, hx1⟩, _⟩ := hx.kr; have hf1 := field_pr1 0; go_simp; try with_reducible rfl
      refine tkH 7 ?_ hS (fun wx hx => ?_) ?_; rotate_left
      · obtain ⟨⟨hx0, hx1⟩, _⟩ := hx.kr; have hf1 := field_pr1 0; go_simp; try with_reducible rfl
      refine tkH 8 ?_ hS (fun wx hx => ?_) ?_; rotate_left
      · obtain ⟨⟨hx0, hx1⟩, _⟩ := hx.kr; have hf1 := field_pr1 0; go_simp; try with_reducible rfl
      refine tkH 9 ?_ hS (fun wx hx => ?_) ?_; rotate_left
      · obtain ⟨⟨hx0, hx1⟩, _⟩ := hx.kr; have hf1 := field_pr1 0; go_simp; try with_reducible rfl
      try simp only [Act.put, List.getElem_toArray, List.getElem_cons_zero, List.getElem_cons_succ, List.setIfInBounds_toArray, List.set_cons_succ, List.set_cons_zero]
      refine rdH 10 (fun K hK => ?_)
      go_simp
      go_wp2_with fail
      refine (specApply_is _ _ 0 0 n ni F G 0 R _ hS.pairs hS.items (by omega) (by omega) HA.out).mono ?_
      rintro e w4 ⟨so, sp, rfl, _, _, q4⟩
      rw [HRN.out]
      have hS4 := hS.later q4
      clear hS q4
      go_wp2_with fail
      refine hK.out _ _ hS4 (fun hS => ?_)
      clear hK K hS4
      refine tkH 11 ?_ hS (fun wx hx => ?_) ?_; rotate_left
      · obtain ⟨⟨hx0, hx1⟩, _⟩ := hx.kr; have hf1 := field_pr1 0; go_simp; try with_reducible rfl
      refine tkH 12 ?_ hS (fun wx hx => ?_) ?_; rotate_left
      · obtain ⟨⟨hx0, hx1⟩, _⟩ := hx.kr; have hf1 := field_pr1 0; go_simp; try with_reducible rfl
      refine tkH 13 ?_ hS (fun wx hx => ?_) ?_; rotate_left
      · obtain ⟨⟨hx0, hx1⟩, _⟩ := hx.kr; have hf1 := field_pr1 0; go_simp; try with_reducible rfl
      try simp only [Act.put, List.getElem_toArray, List.getElem_cons_zero, List.getElem_cons_succ, List.setIfInBounds_toArray, List.set_cons_succ, List.set_cons_zero]
      refine tkH 14 ?_ hS (fun wx hx => ?_) ?_; rotate_left
      · obtain ⟨⟨hx0, hx1⟩, _⟩ := hx.kr; have hf1 := field_pr1 0; go_simp; try with_reducible rfl
      refine tkH 15 ?_ hS (fun wx hx => ?_) ?_; rotate_left
      · obtain ⟨⟨hx0, hx1⟩, _⟩ := hx.kr; have hf1 := field_pr1 0; go_simp; try with_reducible rfl
      refine tkH 16 ?_ hS (fun wx hx => ?_) ?_; rotate_left
      · obtain ⟨⟨hx0, hx1⟩, _⟩ := hx.kr; have hf1 := field_pr1 0; go_simp; try with_reducible rfl
      try simp only [Act.put, List.getElem_toArray, List.getElem_cons_zero, List.getElem_cons_succ, List.setIfInBounds_toArray, List.set_cons_succ, List.set_cons_zero]
      refine tkH 17 ?_ hS (fun wx hx => ?_) ?_; rotate_left
      · obtain ⟨⟨hx0, hx1⟩, _⟩ := hx.kr; have hf1 := field_pr1 0; go_simp; try with_reducible rfl
      refine tkH 18 ?_ hS (fun wx hx => ?_) ?_; rotate_left
      · obtain ⟨⟨hx0, hx1⟩, _⟩ := hx.kr; have hf1 := field_pr1 0; go_simp; try with_reducible rfl
      refine tkH 19 ?_ hS (fun wx hx => ?_) ?_; rotate_left
      · obtain ⟨⟨hx0, hx1⟩, _⟩ := hx.kr; have hf1 := field_pr1 0; go_simp; try with_reducible rfl
      try simp only [Act.put, List.getElem_toArray, List.getElem_cons_zero, List.getElem_cons_succ, List.setIfInBounds_toArray, List.set_cons_succ, List.set_cons_zero]
      refine rdH 20 (fun K hK => ?_)
      go_simp
      go_wp2_with fail
      refine (implSamePairs_any _ _ 0 0 R.length R.length (rowL R) (rowL R) true _ hS.res hS.res (by have := HL.out.2; omega) (by have := HL.out.2; omega) ⟨fun _ => ⟨rfl, fun _ _ => rfl⟩, fun _ => rfl⟩).mono ?_
      rintro e w5 ⟨rfl, q5, hw5⟩
      have hS5 : EnvM w w2.heap.size 0 n F (.slice ao n cp) ni G (.slice bo ni bp) R (.slice ro RN rp) w5 := by rw [hw5]; exact hS.later (below_dn (Below.refl _ _) _)
      clear hS hw5
      go_wp2_with fail
      refine hK.out _ _ hS5 (fun hS => ?_)
      clear hK K hS5
      refine tkH 21 ?_ hS (fun wx hx => ?_) ?_; rotate_left
      · obtain ⟨⟨hx0, hx1⟩, _⟩ := hx.kr; have hf1 := field_pr1 0; go_simp; try with_reducible rfl
      refine tkH 22 ?_ hS (fun wx hx => ?_) ?_; rotate_left
      · obtain ⟨⟨hx0, hx1⟩, _⟩ := hx.kr; have hf1 := field_pr1 0; go_simp; try with_reducible rfl
      refine wpAnyH_done (by kernel_rfl) ?_ _
      go_simp
      go_wp2
      go_ret
      exact ⟨rfl, hS.below⟩
    by_cases h5 : faultOf (k : Int) = 0
    case neg =>
      obtain ⟨q, hq⟩ : ∃ q, faultOf (k : Int) = q := ⟨_, rfl⟩
      have HQ : Hid (faultOf (k : Int) = q) := hq
      have d' : (q != 0) = true := bne_iff_ne.2 (by rw [← hq]; exact h5)
      clear h5 hq
      go_wp2_with fail
      refine (keyFault_any _ _).mono ?_
      rintro e w9 ⟨rfl, hw9⟩
      obtain rfl := hw9.symm
      rw [HQ.out]
      go_wp2
      go_roundw
      case rel => exact ⟨k + 1, by omega, by go_num, HE⟩
      case measure => simp [intOf]; omega
    have HK : Hid (faultOf (k : Int) = 0) := h5
    clear h5
    obtain ⟨P, hP⟩ : ∃ P : Nat → Bool × Int, ∀ j, P j = lookF (applyN (listOf F n) G j) k := ⟨fun j => lookF (applyN (listOf F n) G j) k, fun _ => rfl⟩
    have HP0 : Hid (ValAns n F k 0 (P 0).2 (P 0).1) := by
      unfold Hid
      rw [hP 0]
      exact valAns_ok HZ.out.1 HK.out
    have HPn : Hid (ValAns R.length (rowL R) k 0 (P ni).2 (P ni).1) := by
      unfold Hid
      have := valAns_ok (n := R.length) (F := rowL R) (key := (k : Int)) HL.out.1.1 HK.out
      rw [HL.out.1.2] at this
      rw [hP ni, ← HZ.out.2.2]
      exact this
    have HPS : Hid (∀ j, P (j + 1) = if G (j * 3) = k ∧ G (j * 3 + 1) = 1 then (true, G (j * 3 + 2)) else if G (j * 3) = k ∧ G (j * 3 + 1) = 2 then (false, 0) else P j) := fun j => by
      rw [hP (j + 1), hP j, applyN, look_step]
    clear hP
    go_wp2_with fail
    refine (keyFault_any _ _).mono ?_
    rintro e w9 ⟨rfl, hw9⟩
    obtain rfl := hw9.symm
    rw [HK.out]
    go_wp2_with fail
    refine (implValueIn_is _ 0 n F k 0 (P 0).2 (P 0).1 _ HE.out.pairs (by omega) HP0.out).mono ?_
    rintro e w4 ⟨rfl, q4⟩
    have HE4 : Hid (EnvM w w2.heap.size 0 n F (.slice ao n cp) ni G (.slice bo ni bp) R (.slice ro RN rp) w4) := HE.out.later q4
    have HI0 : Hid (Below w4.heap.size w4 (w4.alloc (.cells #[.int .i64 0, .bool (P 0).1, .int .i64 (P 0).2] 33)) ∧ Blk3 (w4.alloc (.cells #[.int .i64 0, .bool (P 0).1, .int .i64 (P 0).2] 33)) w4.heap.size (.int .i64 0) (.bool (P 0).1) (.int .i64 (P 0).2)) := ⟨below_alloc _ _, Blk3.new _ _ _ _ _⟩
    clear q4 HE
    go_wp2
    go_loopw [8] (fun i x => ∃ j : Nat, j ≤ ni ∧ i = .int .i64 j ∧ Hid (Below w4.heap.size w4 x ∧ Blk3 x w4.heap.size (.int .i64 0) (.bool (P j).1) (.int .i64 (P j).2))) (fun i _ => ni - (intOf i).toNat)
    case atStart => exact ⟨0, Nat.zero_le _, rfl, HI0⟩
    case round =>
      clear HI0
      obtain ⟨j, hj, rfl, HI⟩ := hrel
      by_cases hlj : j < ni
      case neg =>
        obtain rfl : j = ni := by omega
        obtain ⟨p1, hp1⟩ : ∃ p1, (P j).1 = p1 := ⟨_, rfl⟩
        obtain ⟨p2, hp2⟩ : ∃ p2, (P j).2 = p2 := ⟨_, rfl⟩
        rw [hp1, hp2] at HI HPn
        clear hp1 hp2
        have HS19 : Hid ((fun X : World => (EnvM w w2.heap.size 0 n F (.slice ao n cp) j G (.slice bo j bp) R (.slice ro RN rp)) X ∧ Blk3 X w4.heap.size (.int .i64 0) (.bool p1) (.int .i64 p2)) wr.drew) := ⟨(HE4.out.later HI.out.1).later (Below.drew (Below.refl _ _)), HI.out.2⟩
        go_upto_region 19 with fail
        refine wp_region_held_drew (S := fun X : World => (EnvM w w2.heap.size 0 n F (.slice ao n cp) j G (.slice bo j bp) R (.slice ro RN rp)) X ∧ Blk3 X w4.heap.size (.int .i64 0) (.bool p1) (.int .i64 p2)) (by kernel_rfl) HS19.out (fun hS => ?_)
        clear HS19 HI
        refine tkH 0 ?_ hS (fun wx hx => ?_) ?_; rotate_left
        · obtain ⟨⟨hx0, hx1⟩, _⟩ := hx.1.kr; obtain ⟨⟨hx2, hx3, hx4⟩, _⟩ := hx.2; have hnq := neqGet 0 p2 p1; go_simp; try with_reducible rfl
        refine tkH 1 ?_ hS (fun wx hx => ?_) ?_; rotate_left
        · obtain ⟨⟨hx0, hx1⟩, _⟩ := hx.1.kr; obtain ⟨⟨hx2, hx3, hx4⟩, _⟩ := hx.2; have hnq := neqGet 0 p2 p1; go_simp; try with_reducible rfl
        refine tkH 2 ?_ hS (fun wx hx => ?_) ?_; rotate_left
        · obtain ⟨⟨hx0, hx1⟩, _⟩ := hx.1.kr; obtain ⟨⟨hx2, hx3, hx4⟩, _⟩ := hx.2; have hnq := neqGet 0 p2 p1; go_simp; try with_reducible rfl
        refine tkH 4 ?_ hS (fun wx hx => ?_) ?_; rotate_left
        · obtain ⟨⟨hx0, hx1⟩, _⟩ := hx.1.kr; obtain ⟨⟨hx2, hx3, hx4⟩, _⟩ := hx.2; have hnq := neqGet 0 p2 p1; go_simp; try with_reducible rfl
        try simp only [Act.put, List.getElem_toArray, List.getElem_cons_zero, List.getElem_cons_succ, List.setIfInBounds_toArray, List.set_cons_succ, List.set_cons_zero]
        refine rdH 3 (fun K hK => ?_)
        go_simp
        go_wp2_with fail
        refine (implValueIn_is _ 0 R.length (rowL R) k 0 p2 p1 _ hS.1.res (by have := HL.out.2; omega) HPn.out).mono ?_
        rintro e w5 ⟨rfl, q5⟩
        have hS5 : (EnvM w w2.heap.size 0 n F (.slice ao n cp) j G (.slice bo j bp) R (.slice ro RN rp)) w5 ∧ Blk3 w5 w4.heap.size (.int .i64 0) (.bool p1) (.int .i64 p2) := ⟨hS.1.later q5, hS.2.later q5⟩
        clear hS q5
        go_wp2_with fail
        refine hK.out _ _ hS5 (fun hS => ?_)
        clear hK K hS5
        refine tkH 5 ?_ hS (fun wx hx => ?_) ?_; rotate_left
        · obtain ⟨⟨hx0, hx1⟩, _⟩ := hx.1.kr; obtain ⟨⟨hx2, hx3, hx4⟩, _⟩ := hx.2; have hnq := neqGet 0 p2 p1; go_simp; try with_reducible rfl
        refine wpAnyH_done (by kernel_rfl) ?_ _
        go_simp
        go_wp2
        go_roundw
        case rel => exact ⟨k + 1, by omega, by go_num, hS.1⟩
        case measure => simp [intOf]; omega
      obtain ⟨g, oo, hbo, _, hg, yw0, yw1, yw2⟩ := HE4.out.items.at3 hlj
      subst hbo
      have y0 := (HI.out.1.cell (p := ⟨g, oo + j * 3, none⟩) hg).trans yw0
      have y1 := (HI.out.1.cell (p := ⟨g, oo + j * 3 + 1, none⟩) hg).trans yw1
      have y2 := (HI.out.1.cell (p := ⟨g, oo + j * 3 + 2, none⟩) hg).trans yw2
      have hgn : ¬ g = w4.heap.size := by omega
      have hgn' : ¬ w4.heap.size = g := by omega
      clear yw0 yw1 yw2
      obtain ⟨n0, N0⟩ : ∃ x, G (j * 3) = x := ⟨_, rfl⟩
      rw [N0] at y0
      obtain ⟨n1, N1⟩ : ∃ x, G (j * 3 + 1) = x := ⟨_, rfl⟩
      rw [N1] at y1
      obtain ⟨n2, N2⟩ : ∃ x, G (j * 3 + 2) = x := ⟨_, rfl⟩
      rw [N2] at y2
      have HST : Hid (P (j + 1) = if n0 = k ∧ n1 = 1 then (true, n2) else if n0 = k ∧ n1 = 2 then (false, 0) else P j) := by
        have := HPS.out j
        rwa [N0, N1, N2] at this
      clear N0 N1 N2
      obtain ⟨⟨c0, c1, c2⟩, f0, f1, f2⟩ := HI.out.2
      have hzx : w4.heap.size < wr.heap.size := HI.out.2.lt
      by_cases hk0 : n0 = k
      · by_cases k1 : n1 = 1
        · have HE1 : Hid (P (j + 1) = (true, n2)) := by unfold Hid; rw [HST.out, if_pos ⟨hk0, k1⟩]
          subst k1
          have dk : (n0 == (k : Int)) = true := beq_iff_eq.2 hk0
          clear HST hk0
          go_wp2
          go_roundw
          case rel =>
            refine ⟨j + 1, by omega, by go_num, ?_⟩
            rw [HE1.out]
            exact ⟨((HI.out.1.setCell (by simp) _).setCell (by simp) _).setCell (by simp) _, Blk3.putP HI.out.2 _ _ _⟩
          case measure => simp [intOf]; omega
        have d1 : (n1 == 1) = false := beq_eq_false_iff_ne.2 k1
        have dk : (n0 == (k : Int)) = true := beq_iff_eq.2 hk0
        by_cases k2 : n1 = 2
        · have HE1 : Hid (P (j + 1) = (false, 0)) := by unfold Hid; rw [HST.out, if_neg (fun q => k1 q.2), if_pos ⟨hk0, k2⟩]
          subst k2
          clear HST hk0 k1 d1
          go_wp2
          go_roundw
          case rel =>
            refine ⟨j + 1, by omega, by go_num, ?_⟩
            rw [HE1.out]
            exact ⟨((HI.out.1.setCell (by simp) _).setCell (by simp) _).setCell (by simp) _, Blk3.putP HI.out.2 _ _ _⟩
          case measure => simp [intOf]; omega
        have d2 : (n1 == 2) = false := beq_eq_false_iff_ne.2 k2
        have HE1 : Hid (P (j + 1) = P j) := by unfold Hid; rw [HST.out, if_neg (fun q => k1 q.2), if_neg (fun q => k2 q.2)]
        clear HST hk0 k1 k2
        go_wp2
        go_roundw
        case rel =>
          refine ⟨j + 1, by omega, by go_num, ?_⟩
          rw [HE1.out]
          exact HI
        case measure => simp [intOf]; omega
      have dk : (n0 == (k : Int)) = false := beq_eq_false_iff_ne.2 hk0
      have HE1 : Hid (P (j + 1) = P j) := by unfold Hid; rw [HST.out, if_neg (fun q => hk0 q.1), if_neg (fun q => hk0 q.1)]
      clear HST hk0
      go_wp2
      go_roundw
      case rel =>
        refine ⟨j + 1, by omega, by go_num, ?_⟩
        rw [HE1.out]
        exact HI
      case measure => simp [intOf]; omega
end Go.Proofs.Ytdbcmckoiacemaa

