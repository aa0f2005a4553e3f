/-
  Own text, merged of CmtD, InsV, BinW, SortD, StoA, SetB, StorL, CmpD.
-/
import Derived.Test.YtgedodcojalidaaGreatPk6
namespace Go.Proofs.YtgedodcojalidaaGreat
section
open Go.RowKit
def writeAt (k : Nat → Int) (a c : Int) (i : Nat) : Prop := k (i * 4) = a ∧ k (i * 4 + 1) = c
/-- What l3At answers. -/
def AtAns (S : Sto) (a c : Int) (w : World) (e : Ending) (w' : World) : Prop := ∃ r : Bool, e = .returned (.bool r) ∧ (r = true ↔ ∃ i, i < S.nw ∧ writeAt S.k a c i) ∧ w' = w
set_option maxRecDepth 10000 in
set_option maxHeartbeats 2000000 in
theorem l3At_anyO (S : Sto) (b oo : Nat) (v0 v1 v2 : Value) (a c : Int) (w : World) (h : LiesO w b oo S v0 v1 v2) (hn : S.nw ≤ 200) :
    Calls Tryz.prog 122 #[.pointer (some ⟨b, oo, none⟩), .int .i64 a, .int .i64 c] w (AtAns S a c w) := by
  obtain ⟨a0, c0, a1, c1, a2, c2, rfl, rfl, rfl⟩ := h.2.form
  have H : Hid (LiesO w b oo S (.slice a0 S.nc c0) (.slice a1 S.nl c1) (.slice a2 S.nw c2)) := h
  have p0 := h.1.2.2
  have hb := h.lt
  clear h
  go_enter Tryz.func122, Tryz.ntmps122
  go_wp2
  go_loop [7] (fun i => ∃ k : Nat, k ≤ S.nw ∧ i = .int .i64 k ∧ Hid (∀ j, j < k → ¬ writeAt S.k a c j)) (fun i => S.nw - (intOf i).toNat)
  case atStart => exact ⟨0, Nat.zero_le _, rfl, fun j hj => absurd hj (Nat.not_lt_zero j)⟩
  case round =>
    obtain ⟨k, hk, rfl, HS⟩ := hrel
    by_cases hlt : k < S.nw
    case neg =>
      obtain rfl : k = S.nw := by omega
      go_wp2
      refine bodyPost_ret (v := .bool false) (by simp [results, Tryz.results122, go_sem]) rfl ⟨false, rfl, ?_, rfl⟩
      exact ⟨fun q => (Bool.false_ne_true q).elim, fun ⟨i, hi, q⟩ => (HS.out i hi q).elim⟩
    obtain ⟨g, o, rfl, _, hg, x0, x1, x2, x3⟩ := H.out.2.2.2.at4 hlt
    obtain ⟨n0, N0⟩ : ∃ x, S.k (k * 4) = x := ⟨_, rfl⟩
    obtain ⟨n1, N1⟩ : ∃ x, S.k (k * 4 + 1) = x := ⟨_, rfl⟩
    rw [N0] at x0
    rw [N1] at x1
    by_cases h0 : n0 = a
    · by_cases h1 : n1 = c
      · have E : Hid (writeAt S.k a c k) := ⟨N0.trans h0, N1.trans h1⟩
        clear N0 N1
        subst h0 h1
        go_wp2
        refine bodyPost_ret (v := .bool true) (by simp [results, Tryz.results122, go_sem]) rfl ⟨true, rfl, ?_, rfl⟩
        exact ⟨fun _ => ⟨k, hlt, E.out⟩, fun _ => rfl⟩
      · have E : Hid (∀ j, j < k + 1 → ¬ writeAt S.k a c j) := all_next HS.out (fun q => h1 (N1.symm.trans q.2))
        have d1 : (n1 == c) = false := beq_eq_false_iff_ne.2 h1
        clear N0 N1 HS h1
        subst h0
        go_wp2
        go_round
        case rel => exact ⟨k + 1, by omega, by go_num, E⟩
        case measure => simp [intOf]; omega
    · have E : Hid (∀ j, j < k + 1 → ¬ writeAt S.k a c j) := all_next HS.out (fun q => h0 (N0.symm.trans q.1))
      have d0 : (n0 == a) = false := beq_eq_false_iff_ne.2 h0
      clear N0 N1 HS h0
      go_wp2
      go_round
      case rel => exact ⟨k + 1, by omega, by go_num, E⟩
      case measure => simp [intOf]; omega
/-- Is a lock that of a key and start? -/
def goneL (a s : Int) (t : List Int) : Bool := t.getD 0 0 == a && t.getD 1 0 == s
def unlL (F : Nat → Int) (a s : Int) (n : Nat) : List (List Int) := selD F 5 (goneL a s) n
set_option maxRecDepth 100000 in
set_option maxHeartbeats 4000000 in
theorem l3Unlock_any (n : Nat) (F : Nat → Int) (v : Value) (B : Nat) (a s : Int) (w : World) (h : Row w B 5 n F v) (hn : n ≤ 1000) :
    Calls Tryz.prog 123 #[v, .int .i64 a, .int .i64 s] w fun e w' => ∃ ao cp, e = .returned (.slice ao (unlL F a s n).length cp) ∧ OwnM w' w.heap.size 62 5 (.slice ao (unlL F a s n).length cp) (unlL F a s n).length (unlL F a s n).flatten ∧ Below w.heap.size w w' := by
  obtain ⟨ao0, cp0, rfl⟩ := h.form
  have H : Hid (Row w B 5 n F (.slice ao0 n cp0)) := h
  clear h
  obtain ⟨i0, hi, hz0, hz1, hz2⟩ := info_parts info_Lock
  go_enter Tryz.func123, Tryz.ntmps123
  go_wp2
  go_loopw [7, 8] (fun out i wr => ∃ (k : Nat) (ao : Option Addr) (cp : Nat), k ≤ n ∧ i = .int .i64 k ∧ out = .slice ao (unlL F a s k).length cp ∧ Hid (OwnM wr w.heap.size 62 5 (.slice ao (unlL F a s k).length cp) (unlL F a s k).length (unlL F a s k).flatten ∧ Below w.heap.size w wr)) (fun _ i _ => n - (intOf i).toNat)
  case atStart => exact ⟨0, _, _, Nat.zero_le _, rfl, rfl, OwnM.lit0 _ _ _ _ rfl, below_alloc _ _⟩
  case round =>
    obtain ⟨k, ao, cp, hk, rfl, rfl, HS⟩ := hrel
    by_cases hlt : k < n
    case neg =>
      obtain rfl : k = n := by omega
      go_wp2
      refine bodyPost_ret (v := .slice ao (unlL F a s k).length cp) (by simp [results, Tryz.results123, go_sem]) rfl ⟨ao, cp, rfl, HS.out⟩
    obtain ⟨g, o, rfl, _, hg, x0, x1, x2, x3, x4⟩ := (H.out.later HS.out.2).at5 hlt
    obtain ⟨n0, N0⟩ : ∃ x, F (k * 5) = x := ⟨_, rfl⟩
    rw [N0] at x0
    obtain ⟨n1, N1⟩ : ∃ x, F (k * 5 + 1) = x := ⟨_, rfl⟩
    rw [N1] at x1
    obtain ⟨n2, N2⟩ : ∃ x, F (k * 5 + 2) = x := ⟨_, rfl⟩
    rw [N2] at x2
    obtain ⟨n3, N3⟩ : ∃ x, F (k * 5 + 3) = x := ⟨_, rfl⟩
    rw [N3] at x3
    obtain ⟨n4, N4⟩ : ∃ x, F (k * 5 + 4) = x := ⟨_, rfl⟩
    rw [N4] at x4
    have HD : struD F 5 k = [n0, n1, n2, n3, n4] := by
      rw [← N0, ← N1, ← N2, ← N3, ← N4]
      rfl
    clear N0 N1 N2 N3 N4
    by_cases h0 : n0 = a
    · by_cases h1 : n1 = s
      · have HU : Hid (unlL F a s (k + 1) = unlL F a s k) := selD_gone (by rw [HD]; unfold goneL; simp [h0, h1])
        clear HD
        subst h0 h1
        obtain ⟨LL, hLL⟩ : ∃ LL, unlL F n0 n1 k = LL := ⟨_, rfl⟩
        rw [hLL] at HS HU
        have HLL : Hid (unlL F n0 n1 k = LL) := hLL
        rw [hLL]
        clear hLL
        go_wp2
        go_roundw
        case rel => exact ⟨k + 1, ao, cp, by omega, by go_num, by rw [HU.out], by rw [HU.out]; exact HS⟩
        case measure => simp [intOf]; omega
      · have HU : Hid (unlL F a s (k + 1) = unlL F a s k ++ [[n0, n1, n2, n3, n4]]) := by
          have := selD_kept (F := F) (m := 5) (D := goneL a s) (k := k) (by rw [HD]; unfold goneL; simp [h1])
          rw [HD] at this
          exact this
        have d0 : (n1 != s) = true := by rw [bne_iff_ne]; exact h1
        clear HD h1
        subst h0
        obtain ⟨LL, hLL⟩ : ∃ LL, unlL F n0 s k = LL := ⟨_, rfl⟩
        have hle : LL.length ≤ k := by rw [← hLL]; exact selD_le _ _ _ _
        rw [hLL] at HS HU
        rw [hLL]
        clear hLL
        have hbz := HS.out.2.size
        go_wp2_with (at_builtin; refine wpList_app 62 i0 (.agg #[.int .i64 0, .int .i64 0, .int .i64 0, .int .i64 0, .int .i64 0]) 5 40 rfl _ _ 25 rfl Tryz.underlying25 hi hz0 hz1 hz2 rfl (by omega) (by omega) _ w.heap.size LL.length LL.flatten (.slice ao LL.length cp) rfl (HS.out.1.later (below_alloc _ _)) 0 1 (fun p => [n0, n1, n2, n3, n4].getD p 0) (.slice (some ⟨wr.heap.size, 0, none⟩) 1 1) rfl (row_lit5 wr n0 n1 n2 n3 n4 62) (by omega) (by simp; omega) ?_; intro ao1 cp1 w2 O2 G2)
        have HS2 : Hid (OwnM w2 w.heap.size 62 5 (.slice ao1 (unlL F n0 s (k + 1)).length cp1) (unlL F n0 s (k + 1)).length (unlL F n0 s (k + 1)).flatten ∧ Below w.heap.size w w2) := by
          unfold Hid
          rw [HU.out, List.length_append, List.length_singleton, List.flatten_append]
          refine ⟨?_, (HS.out.2.alloc hbz _).grown G2 (by simp; omega) (fun r e => (HS.out.1.block r e).1)⟩
          have e5 : nums (fun p => [n0, n1, n2, n3, n4].getD p 0) (1 * 5) = [[n0, n1, n2, n3, n4]].flatten := rfl
          rw [← e5]
          exact O2
        clear O2 G2 HS
        go_wp2
        go_roundw
        case rel => exact ⟨k + 1, ao1, cp1, by omega, by go_num, by rw [HU.out, List.length_append]; rfl, HS2⟩
        case measure => simp [intOf]; omega
    · have HU : Hid (unlL F a s (k + 1) = unlL F a s k ++ [[n0, n1, n2, n3, n4]]) := by
        have := selD_kept (F := F) (m := 5) (D := goneL a s) (k := k) (by rw [HD]; unfold goneL; simp [h0])
        rw [HD] at this
        exact this
      have d0 : (n0 != a) = true := by rw [bne_iff_ne]; exact h0
      clear HD h0
      obtain ⟨LL, hLL⟩ : ∃ LL, unlL F a s k = LL := ⟨_, rfl⟩
      have hle : LL.length ≤ k := by rw [← hLL]; exact selD_le _ _ _ _
      rw [hLL] at HS HU
      rw [hLL]
      clear hLL
      have hbz := HS.out.2.size
      go_wp2_with (at_builtin; refine wpList_app 62 i0 (.agg #[.int .i64 0, .int .i64 0, .int .i64 0, .int .i64 0, .int .i64 0]) 5 40 rfl _ _ 25 rfl Tryz.underlying25 hi hz0 hz1 hz2 rfl (by omega) (by omega) _ w.heap.size LL.length LL.flatten (.slice ao LL.length cp) rfl (HS.out.1.later (below_alloc _ _)) 0 1 (fun p => [n0, n1, n2, n3, n4].getD p 0) (.slice (some ⟨wr.heap.size, 0, none⟩) 1 1) rfl (row_lit5 wr n0 n1 n2 n3 n4 62) (by omega) (by simp; omega) ?_; intro ao1 cp1 w2 O2 G2)
      have HS2 : Hid (OwnM w2 w.heap.size 62 5 (.slice ao1 (unlL F a s (k + 1)).length cp1) (unlL F a s (k + 1)).length (unlL F a s (k + 1)).flatten ∧ Below w.heap.size w w2) := by
        unfold Hid
        rw [HU.out, List.length_append, List.length_singleton, List.flatten_append]
        refine ⟨?_, (HS.out.2.alloc hbz _).grown G2 (by simp; omega) (fun r e => (HS.out.1.block r e).1)⟩
        have e5 : nums (fun p => [n0, n1, n2, n3, n4].getD p 0) (1 * 5) = [[n0, n1, n2, n3, n4]].flatten := rfl
        rw [← e5]
        exact O2
      clear O2 G2 HS
      go_wp2
      go_roundw
      case rel => exact ⟨k + 1, ao1, cp1, by omega, by go_num, by rw [HU.out, List.length_append]; rfl, HS2⟩
      case measure => simp [intOf]; omega
end

section
open Go.RowKit
/-- One more struct in its place. -/
def insF (F : Nat → Int) (m n k : Nat) (xs : List Int) : Nat → Int := fun p => (nums F (k * m) ++ xs ++ nums (fun p => F (k * m + p)) ((n - k) * m)).getD p 0
/-- A store of which a lock of key a and start s has become a write of kind d, at commit c; its place is k. -/
def commitS (S : Sto) (a s c d : Int) (k : Nat) : Sto := ⟨S.nc, S.c, (unlL S.l a s S.nl).length, fun p => (unlL S.l a s S.nl).flatten.getD p 0, S.nw + 1, insF S.k 4 S.nw k [a, c, s, d]⟩

/-- What l3Commit stands on: its answer (the first block), the copy (block z). -/
def CmE (w : World) (b oo : Nat) (S : Sto) (v0 v1 v2 : Value) (z : Nat) (u0 u1 u2 : Value) (x : World) : Prop :=
  Blk4 x w.heap.size (.int .i64 0) (.slice none 0 0) (.slice none 0 0) (.slice none 0 0) ∧ Blk3 x z u0 u1 u2 ∧ LiesO x b oo S v0 v1 v2 ∧ Below w.heap.size w x
theorem CmE.later {w x x' : World} {b oo z : Nat} {S : Sto} {v0 v1 v2 u0 u1 u2 : Value} (h : CmE w b oo S v0 v1 v2 z u0 u1 u2 x) (hb : Below x.heap.size x x') : CmE w b oo S v0 v1 v2 z u0 u1 u2 x' := ⟨h.1.later hb, h.2.1.later hb, h.2.2.1.later hb, h.2.2.2.trans (hb.mono h.2.2.2.size)⟩
set_option maxRecDepth 100000 in
set_option maxHeartbeats 8000000 in
theorem l3Commit_sameO (S : Sto) (b oo : Nat) (v0 v1 v2 : Value) (a s c : Int) (i : Nat) (w : World) (h : LiesO w b oo S v0 v1 v2) (hz : storeF S = 0) (hi : FirstAt (writeIs S.k a s) S.nw i) (hc : S.k (i * 4 + 1) = c) :
    Calls Tryz.prog 88 #[.pointer (some ⟨b, oo, none⟩), .int .i64 a, .int .i64 s, .int .i64 c] w (ResStoK w 0 S) := by
  have hin : i < S.nw := hi.at.1
  obtain ⟨a0, c0, a1, c1, a2, c2, rfl, rfl, rfl⟩ := h.2.form
  have H : Hid (LiesO w b oo S (.slice a0 S.nc c0) (.slice a1 S.nl c1) (.slice a2 S.nw c2)) := h
  obtain ⟨p0, p1, p2⟩ := h.1
  have hb := h.lt
  obtain ⟨⟨hn0, hn1, hn2⟩, _⟩ := storeF_zero hz
  clear h
  go_enter Tryz.func88, Tryz.ntmps88
  go_wp2_with fail
  refine (l2Copy_own S _ _ _ 0 _ (H.out.2.alloc _) ⟨by omega, by omega, by omega⟩).mono ?_
  rintro e w2 ⟨d0, e0, d1, e1, d2, e2, rfl, o2, q2⟩
  have g0 := own_cap o2.1.1
  have g1 := own_cap o2.1.2.1
  have g2 := own_cap o2.1.2.2
  obtain ⟨s2, fr2, ap2⟩ := o2.all
  simp only [World.size_alloc] at s2 q2 o2
  have BW2 : Below w.heap.size w w2 := (below_alloc w _).trans (q2.mono (Nat.le_succ _))
  have HE : Hid (CmE w b oo S (.slice a0 S.nc c0) (.slice a1 S.nl c1) (.slice a2 S.nw c2) w2.heap.size (.slice d0 S.nc e0) (.slice d1 S.nl e1) (.slice d2 S.nw e2) (w2.alloc (.cells #[.slice d0 S.nc e0, .slice d1 S.nl e1, .slice d2 S.nw e2] 28))) :=
    ⟨((Blk4.new w _ _ _ _ _).kept (q2.block w.heap.size (Nat.lt_succ_self _))).alloc _, Blk3.new _ _ _ _ _, (H.out.later BW2).later (below_alloc _ _), BW2.trans ((below_alloc w2 _).mono BW2.size)⟩
  have HS : Hid ((St w2 (w.heap.size + 1) S (.slice d0 S.nc e0) (.slice d1 S.nl e1) (.slice d2 S.nw e2) ∧ FreeS w2 S (.slice d0 S.nc e0) (.slice d1 S.nl e1) (.slice d2 S.nw e2)) ∧ ApartD S (.slice d0 S.nc e0) (.slice d1 S.nl e1) (.slice d2 S.nw e2)) := ⟨⟨s2, fr2⟩, ap2⟩
  have HOS : Hid (OwnS w2 (w.heap.size + 1) S (.slice d0 S.nc e0) (.slice d1 S.nl e1) (.slice d2 S.nw e2)) := o2
  have hzw : w.heap.size < w2.heap.size := by have := q2.size; simp at this; omega
  have B23 : Hid (Below w2.heap.size w2 (w2.alloc (.cells #[.slice d0 S.nc e0, .slice d1 S.nl e1, .slice d2 S.nw e2] 28))) := below_alloc _ _
  have hbl : b < w2.heap.size := Nat.lt_trans hb hzw
  clear o2 s2 fr2 ap2 q2 BW2 p0 p1 p2
  go_wp2_with fail
  generalize w2.alloc (.cells #[.slice d0 S.nc e0, .slice d1 S.nl e1, .slice d2 S.nw e2] 28) = w3 at HE B23 ⊢
  have hz3 : w2.heap.size < w3.heap.size := HE.out.2.1.lt
  refine (l2Write_isO S b oo _ _ _ a s i _ HE.out.2.2.1 hn2 hi).mono ?_
  rintro e w' ⟨rfl, rfl⟩
  obtain ⟨⟨⟨r0, r1, r2, r3⟩, f0, f1, f2, f3⟩, ⟨⟨t0, t1, t2⟩, _⟩, ⟨⟨p0, p1, p2⟩, pst⟩, _⟩ := HE.out
  obtain ⟨g, o, hg, _, hgl, x0, x1, x2, x3⟩ := pst.2.2.at4 hin
  subst hg
  rw [hc] at x1
  unfold ResStoK
  clear pst
  go_wp2
  have S3 : St w' (w.heap.size + 1) S (.slice d0 S.nc e0) (.slice d1 S.nl e1) (.slice d2 S.nw e2) := HS.out.1.1.later B23.out
  have O3 := HOS.out.later B23.out
  have hlo : (w.heap.size : Nat) < w.heap.size + 1 := Nat.lt_succ_self _
  exact bodyPost_ret (v := .agg #[.int .i64 0, .slice d0 S.nc e0, .slice d1 S.nl e1, .slice d2 S.nw e2]) (by simp [results, Tryz.results88, go_sem, r0, r1, r2, r3]) rfl ⟨d0, e0, d1, e1, d2, e2, rfl, ((((O3.far hlo _).far hlo _).far hlo _).far hlo _).mono (by omega), (((HE.out.2.2.2.setCell (Nat.le_refl _) _).setCell (Nat.le_refl _) _).setCell (Nat.le_refl _) _).setCell (Nat.le_refl _) _⟩
theorem bool_no {r : Bool} {P : Prop} (h : r = true ↔ P) (hn : ¬ P) : r = false := by
  cases r with
  | false => rfl
  | true => exact (hn (h.1 rfl)).elim
set_option maxRecDepth 100000 in
set_option maxHeartbeats 8000000 in
theorem l3Commit_takenO (S : Sto) (b oo : Nat) (v0 v1 v2 : Value) (a s c : Int) (i : Nat) (w : World) (h : LiesO w b oo S v0 v1 v2) (hz : storeF S = 0) (hi : FirstAt (writeIs S.k a s) S.nw i) (hc : S.k (i * 4 + 1) ≠ c) :
    Calls Tryz.prog 88 #[.pointer (some ⟨b, oo, none⟩), .int .i64 a, .int .i64 s, .int .i64 c] w (ResStoK w 6 emptyS) := by
  have hin : i < S.nw := hi.at.1
  obtain ⟨a0, c0, a1, c1, a2, c2, rfl, rfl, rfl⟩ := h.2.form
  have H : Hid (LiesO w b oo S (.slice a0 S.nc c0) (.slice a1 S.nl c1) (.slice a2 S.nw c2)) := h
  obtain ⟨p0, p1, p2⟩ := h.1
  have hb := h.lt
  obtain ⟨⟨hn0, hn1, hn2⟩, _⟩ := storeF_zero hz
  clear h
  go_enter Tryz.func88, Tryz.ntmps88
  go_wp2_with fail
  refine (l2Copy_own S _ _ _ 0 _ (H.out.2.alloc _) ⟨by omega, by omega, by omega⟩).mono ?_
  rintro e w2 ⟨d0, e0, d1, e1, d2, e2, rfl, o2, q2⟩
  have g0 := own_cap o2.1.1
  have g1 := own_cap o2.1.2.1
  have g2 := own_cap o2.1.2.2
  obtain ⟨s2, fr2, ap2⟩ := o2.all
  simp only [World.size_alloc] at s2 q2 o2
  have BW2 : Below w.heap.size w w2 := (below_alloc w _).trans (q2.mono (Nat.le_succ _))
  have HE : Hid (CmE w b oo S (.slice a0 S.nc c0) (.slice a1 S.nl c1) (.slice a2 S.nw c2) w2.heap.size (.slice d0 S.nc e0) (.slice d1 S.nl e1) (.slice d2 S.nw e2) (w2.alloc (.cells #[.slice d0 S.nc e0, .slice d1 S.nl e1, .slice d2 S.nw e2] 28))) :=
    ⟨((Blk4.new w _ _ _ _ _).kept (q2.block w.heap.size (Nat.lt_succ_self _))).alloc _, Blk3.new _ _ _ _ _, (H.out.later BW2).later (below_alloc _ _), BW2.trans ((below_alloc w2 _).mono BW2.size)⟩
  have HS : Hid ((St w2 (w.heap.size + 1) S (.slice d0 S.nc e0) (.slice d1 S.nl e1) (.slice d2 S.nw e2) ∧ FreeS w2 S (.slice d0 S.nc e0) (.slice d1 S.nl e1) (.slice d2 S.nw e2)) ∧ ApartD S (.slice d0 S.nc e0) (.slice d1 S.nl e1) (.slice d2 S.nw e2)) := ⟨⟨s2, fr2⟩, ap2⟩
  have HOS : Hid (OwnS w2 (w.heap.size + 1) S (.slice d0 S.nc e0) (.slice d1 S.nl e1) (.slice d2 S.nw e2)) := o2
  have hzw : w.heap.size < w2.heap.size := by have := q2.size; simp at this; omega
  have B23 : Hid (Below w2.heap.size w2 (w2.alloc (.cells #[.slice d0 S.nc e0, .slice d1 S.nl e1, .slice d2 S.nw e2] 28))) := below_alloc _ _
  have hbl : b < w2.heap.size := Nat.lt_trans hb hzw
  clear o2 s2 fr2 ap2 q2 BW2 p0 p1 p2
  go_wp2_with fail
  generalize w2.alloc (.cells #[.slice d0 S.nc e0, .slice d1 S.nl e1, .slice d2 S.nw e2] 28) = w3 at HE B23 ⊢
  have hz3 : w2.heap.size < w3.heap.size := HE.out.2.1.lt
  refine (l2Write_isO S b oo _ _ _ a s i _ HE.out.2.2.1 hn2 hi).mono ?_
  rintro e w' ⟨rfl, rfl⟩
  obtain ⟨⟨⟨r0, r1, r2, r3⟩, f0, f1, f2, f3⟩, ⟨⟨t0, t1, t2⟩, _⟩, ⟨⟨p0, p1, p2⟩, pst⟩, _⟩ := HE.out
  obtain ⟨g, o, hg, _, hgl, x0, x1, x2, x3⟩ := pst.2.2.at4 hin
  subst hg
  obtain ⟨y, hy⟩ : ∃ y, S.k (i * 4 + 1) = y := ⟨_, rfl⟩
  rw [hy] at x1 hc
  have dc : (y == c) = false := beq_eq_false_iff_ne.2 hc
  unfold ResStoK
  clear pst hc hy
  go_wp2_with fail
  refine (l3Bad_own 6 _).mono ?_
  rintro e w4 ⟨y0, z0, y1, z1, y2, z2, rfl, o4, q4⟩
  have S4 : Hid (OwnS w4 (w.heap.size + 1) emptyS (.slice y0 emptyS.nc z0) (.slice y1 emptyS.nl z1) (.slice y2 emptyS.nw z2)) := o4.mono (Nat.le_trans hzw (Nat.le_of_lt hz3))
  have HBW : Hid (Below w.heap.size w w4) := HE.out.2.2.2.trans (q4.mono HE.out.2.2.2.size)
  obtain ⟨⟨r0, r1, r2, r3⟩, f0, f1, f2, f3⟩ := HE.out.1.later q4
  clear o4 q4
  have hlo : (w.heap.size : Nat) < w.heap.size + 1 := Nat.lt_succ_self _
  go_wp2
  exact bodyPost_ret (v := .agg #[.int .i64 6, .slice y0 emptyS.nc z0, .slice y1 emptyS.nl z1, .slice y2 emptyS.nw z2]) (by simp [results, Tryz.results88, go_sem, r0, r1, r2, r3]) rfl ⟨y0, z0, y1, z1, y2, z2, rfl, ((((S4.out.far hlo _).far hlo _).far hlo _).far hlo _).mono (by omega), (((HBW.out.setCell (Nat.le_refl _) _).setCell (Nat.le_refl _) _).setCell (Nat.le_refl _) _).setCell (Nat.le_refl _) _⟩
set_option maxRecDepth 100000 in
set_option maxHeartbeats 8000000 in
theorem l3Commit_noneO (S : Sto) (b oo : Nat) (v0 v1 v2 : Value) (a s c : Int) (w : World) (h : LiesO w b oo S v0 v1 v2) (hz : storeF S = 0) (hi : FirstAt (writeIs S.k a s) S.nw (-1)) (hl : FirstAt (lockIs S.l a) S.nl (-1) ∨ ∃ j : Nat, FirstAt (lockIs S.l a) S.nl j ∧ S.l (j * 5 + 1) ≠ s) :
    Calls Tryz.prog 88 #[.pointer (some ⟨b, oo, none⟩), .int .i64 a, .int .i64 s, .int .i64 c] w (ResStoK w 4 emptyS) := by
  rcases hl with hl | ⟨j, hl, hj⟩
  focus
    obtain ⟨a0, c0, a1, c1, a2, c2, rfl, rfl, rfl⟩ := h.2.form
    have H : Hid (LiesO w b oo S (.slice a0 S.nc c0) (.slice a1 S.nl c1) (.slice a2 S.nw c2)) := h
    obtain ⟨p0, p1, p2⟩ := h.1
    have hb := h.lt
    obtain ⟨⟨hn0, hn1, hn2⟩, _⟩ := storeF_zero hz
    clear h
    go_enter Tryz.func88, Tryz.ntmps88
    go_wp2_with fail
    refine (l2Copy_own S _ _ _ 0 _ (H.out.2.alloc _) ⟨by omega, by omega, by omega⟩).mono ?_
    rintro e w2 ⟨d0, e0, d1, e1, d2, e2, rfl, o2, q2⟩
    have g0 := own_cap o2.1.1
    have g1 := own_cap o2.1.2.1
    have g2 := own_cap o2.1.2.2
    obtain ⟨s2, fr2, ap2⟩ := o2.all
    simp only [World.size_alloc] at s2 q2 o2
    have BW2 : Below w.heap.size w w2 := (below_alloc w _).trans (q2.mono (Nat.le_succ _))
    have HE : Hid (CmE w b oo S (.slice a0 S.nc c0) (.slice a1 S.nl c1) (.slice a2 S.nw c2) w2.heap.size (.slice d0 S.nc e0) (.slice d1 S.nl e1) (.slice d2 S.nw e2) (w2.alloc (.cells #[.slice d0 S.nc e0, .slice d1 S.nl e1, .slice d2 S.nw e2] 28))) :=
      ⟨((Blk4.new w _ _ _ _ _).kept (q2.block w.heap.size (Nat.lt_succ_self _))).alloc _, Blk3.new _ _ _ _ _, (H.out.later BW2).later (below_alloc _ _), BW2.trans ((below_alloc w2 _).mono BW2.size)⟩
    have HS : Hid ((St w2 (w.heap.size + 1) S (.slice d0 S.nc e0) (.slice d1 S.nl e1) (.slice d2 S.nw e2) ∧ FreeS w2 S (.slice d0 S.nc e0) (.slice d1 S.nl e1) (.slice d2 S.nw e2)) ∧ ApartD S (.slice d0 S.nc e0) (.slice d1 S.nl e1) (.slice d2 S.nw e2)) := ⟨⟨s2, fr2⟩, ap2⟩
    have HOS : Hid (OwnS w2 (w.heap.size + 1) S (.slice d0 S.nc e0) (.slice d1 S.nl e1) (.slice d2 S.nw e2)) := o2
    have hzw : w.heap.size < w2.heap.size := by have := q2.size; simp at this; omega
    have B23 : Hid (Below w2.heap.size w2 (w2.alloc (.cells #[.slice d0 S.nc e0, .slice d1 S.nl e1, .slice d2 S.nw e2] 28))) := below_alloc _ _
    have hbl : b < w2.heap.size := Nat.lt_trans hb hzw
    clear o2 s2 fr2 ap2 q2 BW2 p0 p1 p2
    go_wp2_with fail
    generalize w2.alloc (.cells #[.slice d0 S.nc e0, .slice d1 S.nl e1, .slice d2 S.nw e2] 28) = w3 at HE B23 ⊢
    have hz3 : w2.heap.size < w3.heap.size := HE.out.2.1.lt
    refine (l2Write_isO S b oo _ _ _ a s (-1) _ HE.out.2.2.1 hn2 hi).mono ?_
    rintro e w' ⟨rfl, rfl⟩
    go_wp2_with fail
    refine (l2Lock_isO S b oo _ _ _ a (-1) _ HE.out.2.2.1 hn1 hl).mono ?_
    rintro e w'' ⟨rfl, rfl⟩
    unfold ResStoK
  rotate_left
  focus
    have hin : j < S.nl := hl.at.1
    obtain ⟨a0, c0, a1, c1, a2, c2, rfl, rfl, rfl⟩ := h.2.form
    have H : Hid (LiesO w b oo S (.slice a0 S.nc c0) (.slice a1 S.nl c1) (.slice a2 S.nw c2)) := h
    obtain ⟨p0, p1, p2⟩ := h.1
    have hb := h.lt
    obtain ⟨⟨hn0, hn1, hn2⟩, _⟩ := storeF_zero hz
    clear h
    go_enter Tryz.func88, Tryz.ntmps88
    go_wp2_with fail
    refine (l2Copy_own S _ _ _ 0 _ (H.out.2.alloc _) ⟨by omega, by omega, by omega⟩).mono ?_
    rintro e w2 ⟨d0, e0, d1, e1, d2, e2, rfl, o2, q2⟩
    have g0 := own_cap o2.1.1
    have g1 := own_cap o2.1.2.1
    have g2 := own_cap o2.1.2.2
    obtain ⟨s2, fr2, ap2⟩ := o2.all
    simp only [World.size_alloc] at s2 q2 o2
    have BW2 : Below w.heap.size w w2 := (below_alloc w _).trans (q2.mono (Nat.le_succ _))
    have HE : Hid (CmE w b oo S (.slice a0 S.nc c0) (.slice a1 S.nl c1) (.slice a2 S.nw c2) w2.heap.size (.slice d0 S.nc e0) (.slice d1 S.nl e1) (.slice d2 S.nw e2) (w2.alloc (.cells #[.slice d0 S.nc e0, .slice d1 S.nl e1, .slice d2 S.nw e2] 28))) :=
      ⟨((Blk4.new w _ _ _ _ _).kept (q2.block w.heap.size (Nat.lt_succ_self _))).alloc _, Blk3.new _ _ _ _ _, (H.out.later BW2).later (below_alloc _ _), BW2.trans ((below_alloc w2 _).mono BW2.size)⟩
    have HS : Hid ((St w2 (w.heap.size + 1) S (.slice d0 S.nc e0) (.slice d1 S.nl e1) (.slice d2 S.nw e2) ∧ FreeS w2 S (.slice d0 S.nc e0) (.slice d1 S.nl e1) (.slice d2 S.nw e2)) ∧ ApartD S (.slice d0 S.nc e0) (.slice d1 S.nl e1) (.slice d2 S.nw e2)) := ⟨⟨s2, fr2⟩, ap2⟩
    have HOS : Hid (OwnS w2 (w.heap.size + 1) S (.slice d0 S.nc e0) (.slice d1 S.nl e1) (.slice d2 S.nw e2)) := o2
    have hzw : w.heap.size < w2.heap.size := by have := q2.size; simp at this; omega
    have B23 : Hid (Below w2.heap.size w2 (w2.alloc (.cells #[.slice d0 S.nc e0, .slice d1 S.nl e1, .slice d2 S.nw e2] 28))) := below_alloc _ _
    have hbl : b < w2.heap.size := Nat.lt_trans hb hzw
    clear o2 s2 fr2 ap2 q2 BW2 p0 p1 p2
    go_wp2_with fail
    generalize w2.alloc (.cells #[.slice d0 S.nc e0, .slice d1 S.nl e1, .slice d2 S.nw e2] 28) = w3 at HE B23 ⊢
    have hz3 : w2.heap.size < w3.heap.size := HE.out.2.1.lt
    refine (l2Write_isO S b oo _ _ _ a s (-1) _ HE.out.2.2.1 hn2 hi).mono ?_
    rintro e w' ⟨rfl, rfl⟩
    go_wp2_with fail
    refine (l2Lock_isO S b oo _ _ _ a j _ HE.out.2.2.1 hn1 hl).mono ?_
    rintro e w'' ⟨rfl, rfl⟩
    obtain ⟨⟨⟨r0, r1, r2, r3⟩, f0, f1, f2, f3⟩, ⟨⟨t0, t1, t2⟩, _⟩, ⟨⟨p0, p1, p2⟩, pst⟩, _⟩ := HE.out
    obtain ⟨g, o, hg, _, hgl, x0, x1, x2, x3, x4⟩ := pst.2.1.at5 hin
    subst hg
    obtain ⟨y, hy⟩ : ∃ y, S.l (j * 5 + 1) = y := ⟨_, rfl⟩
    rw [hy] at x1 hj
    have dc : (y != s) = true := by rw [bne_iff_ne]; exact hj
    unfold ResStoK
    clear pst hj hy
  rotate_left
  all_goals
    go_wp2_with fail
    refine (l3Bad_own 4 _).mono ?_
    rintro e w4 ⟨y0, z0, y1, z1, y2, z2, rfl, o4, q4⟩
    have S4 : Hid (OwnS w4 (w.heap.size + 1) emptyS (.slice y0 emptyS.nc z0) (.slice y1 emptyS.nl z1) (.slice y2 emptyS.nw z2)) := o4.mono (Nat.le_trans hzw (Nat.le_of_lt hz3))
    have HBW : Hid (Below w.heap.size w w4) := HE.out.2.2.2.trans (q4.mono HE.out.2.2.2.size)
    obtain ⟨⟨r0, r1, r2, r3⟩, f0, f1, f2, f3⟩ := HE.out.1.later q4
    clear o4 q4
    have hlo : (w.heap.size : Nat) < w.heap.size + 1 := Nat.lt_succ_self _
    go_wp2
    exact bodyPost_ret (v := .agg #[.int .i64 4, .slice y0 emptyS.nc z0, .slice y1 emptyS.nl z1, .slice y2 emptyS.nw z2]) (by simp [results, Tryz.results88, go_sem, r0, r1, r2, r3]) rfl ⟨y0, z0, y1, z1, y2, z2, rfl, ((((S4.out.far hlo _).far hlo _).far hlo _).far hlo _).mono (by omega), (((HBW.out.setCell (Nat.le_refl _) _).setCell (Nat.le_refl _) _).setCell (Nat.le_refl _) _).setCell (Nat.le_refl _) _⟩
set_option maxRecDepth 100000 in
set_option maxHeartbeats 8000000 in
theorem l3Commit_atO (S : Sto) (b oo : Nat) (v0 v1 v2 : Value) (a s c : Int) (j : Nat) (w : World) (h : LiesO w b oo S v0 v1 v2) (hz : storeF S = 0) (hi : FirstAt (writeIs S.k a s) S.nw (-1)) (hl : FirstAt (lockIs S.l a) S.nl j) (hj : S.l (j * 5 + 1) = s) (hat : ∃ i, i < S.nw ∧ writeAt S.k a c i) :
    Calls Tryz.prog 88 #[.pointer (some ⟨b, oo, none⟩), .int .i64 a, .int .i64 s, .int .i64 c] w (ResStoK w 6 emptyS) := by
  have hin : j < S.nl := hl.at.1
  obtain ⟨a0, c0, a1, c1, a2, c2, rfl, rfl, rfl⟩ := h.2.form
  have H : Hid (LiesO w b oo S (.slice a0 S.nc c0) (.slice a1 S.nl c1) (.slice a2 S.nw c2)) := h
  obtain ⟨p0, p1, p2⟩ := h.1
  have hb := h.lt
  obtain ⟨⟨hn0, hn1, hn2⟩, _⟩ := storeF_zero hz
  clear h
  go_enter Tryz.func88, Tryz.ntmps88
  go_wp2_with fail
  refine (l2Copy_own S _ _ _ 0 _ (H.out.2.alloc _) ⟨by omega, by omega, by omega⟩).mono ?_
  rintro e w2 ⟨d0, e0, d1, e1, d2, e2, rfl, o2, q2⟩
  have g0 := own_cap o2.1.1
  have g1 := own_cap o2.1.2.1
  have g2 := own_cap o2.1.2.2
  obtain ⟨s2, fr2, ap2⟩ := o2.all
  simp only [World.size_alloc] at s2 q2 o2
  have BW2 : Below w.heap.size w w2 := (below_alloc w _).trans (q2.mono (Nat.le_succ _))
  have HE : Hid (CmE w b oo S (.slice a0 S.nc c0) (.slice a1 S.nl c1) (.slice a2 S.nw c2) w2.heap.size (.slice d0 S.nc e0) (.slice d1 S.nl e1) (.slice d2 S.nw e2) (w2.alloc (.cells #[.slice d0 S.nc e0, .slice d1 S.nl e1, .slice d2 S.nw e2] 28))) :=
    ⟨((Blk4.new w _ _ _ _ _).kept (q2.block w.heap.size (Nat.lt_succ_self _))).alloc _, Blk3.new _ _ _ _ _, (H.out.later BW2).later (below_alloc _ _), BW2.trans ((below_alloc w2 _).mono BW2.size)⟩
  have HS : Hid ((St w2 (w.heap.size + 1) S (.slice d0 S.nc e0) (.slice d1 S.nl e1) (.slice d2 S.nw e2) ∧ FreeS w2 S (.slice d0 S.nc e0) (.slice d1 S.nl e1) (.slice d2 S.nw e2)) ∧ ApartD S (.slice d0 S.nc e0) (.slice d1 S.nl e1) (.slice d2 S.nw e2)) := ⟨⟨s2, fr2⟩, ap2⟩
  have HOS : Hid (OwnS w2 (w.heap.size + 1) S (.slice d0 S.nc e0) (.slice d1 S.nl e1) (.slice d2 S.nw e2)) := o2
  have hzw : w.heap.size < w2.heap.size := by have := q2.size; simp at this; omega
  have B23 : Hid (Below w2.heap.size w2 (w2.alloc (.cells #[.slice d0 S.nc e0, .slice d1 S.nl e1, .slice d2 S.nw e2] 28))) := below_alloc _ _
  have hbl : b < w2.heap.size := Nat.lt_trans hb hzw
  clear o2 s2 fr2 ap2 q2 BW2 p0 p1 p2
  go_wp2_with fail
  generalize w2.alloc (.cells #[.slice d0 S.nc e0, .slice d1 S.nl e1, .slice d2 S.nw e2] 28) = w3 at HE B23 ⊢
  have hz3 : w2.heap.size < w3.heap.size := HE.out.2.1.lt
  refine (l2Write_isO S b oo _ _ _ a s (-1) _ HE.out.2.2.1 hn2 hi).mono ?_
  rintro e w' ⟨rfl, rfl⟩
  go_wp2_with fail
  refine (l2Lock_isO S b oo _ _ _ a j _ HE.out.2.2.1 hn1 hl).mono ?_
  rintro e w'' ⟨rfl, rfl⟩
  obtain ⟨⟨⟨r0, r1, r2, r3⟩, f0, f1, f2, f3⟩, ⟨⟨t0, t1, t2⟩, _⟩, ⟨⟨p0, p1, p2⟩, pst⟩, _⟩ := HE.out
  obtain ⟨g, o, hg, _, hgl, x0, x1, x2, x3, x4⟩ := pst.2.1.at5 hin
  subst hg
  rw [hj] at x1
  unfold ResStoK
  clear pst
  go_wp2_with fail
  refine (l3At_anyO S b oo _ _ _ a c _ HE.out.2.2.1 hn2).mono ?_
  rintro e w5 ⟨r, rfl, hr, rfl⟩
  obtain rfl : r = true := hr.2 hat
  clear hr hat
  go_wp2_with fail
  refine (l3Bad_own 6 _).mono ?_
  rintro e w4 ⟨y0, z0, y1, z1, y2, z2, rfl, o4, q4⟩
  have S4 : Hid (OwnS w4 (w.heap.size + 1) emptyS (.slice y0 emptyS.nc z0) (.slice y1 emptyS.nl z1) (.slice y2 emptyS.nw z2)) := o4.mono (Nat.le_trans hzw (Nat.le_of_lt hz3))
  have HBW : Hid (Below w.heap.size w w4) := HE.out.2.2.2.trans (q4.mono HE.out.2.2.2.size)
  obtain ⟨⟨r0, r1, r2, r3⟩, f0, f1, f2, f3⟩ := HE.out.1.later q4
  clear o4 q4
  have hlo : (w.heap.size : Nat) < w.heap.size + 1 := Nat.lt_succ_self _
  go_wp2
  exact bodyPost_ret (v := .agg #[.int .i64 6, .slice y0 emptyS.nc z0, .slice y1 emptyS.nl z1, .slice y2 emptyS.nw z2]) (by simp [results, Tryz.results88, go_sem, r0, r1, r2, r3]) rfl ⟨y0, z0, y1, z1, y2, z2, rfl, ((((S4.out.far hlo _).far hlo _).far hlo _).far hlo _).mono (by omega), (((HBW.out.setCell (Nat.le_refl _) _).setCell (Nat.le_refl _) _).setCell (Nat.le_refl _) _).setCell (Nat.le_refl _) _⟩
set_option maxRecDepth 100000 in
set_option maxHeartbeats 8000000 in
theorem l3Commit_manyO (S : Sto) (b oo : Nat) (v0 v1 v2 : Value) (a s c : Int) (j : Nat) (w : World) (h : LiesO w b oo S v0 v1 v2) (hz : storeF S = 0) (hi : FirstAt (writeIs S.k a s) S.nw (-1)) (hl : FirstAt (lockIs S.l a) S.nl j) (hj : S.l (j * 5 + 1) = s) (hat : ¬ ∃ i, i < S.nw ∧ writeAt S.k a c i) (hm : 200 ≤ S.nw) :
    Calls Tryz.prog 88 #[.pointer (some ⟨b, oo, none⟩), .int .i64 a, .int .i64 s, .int .i64 c] w (ResStoK w 2 emptyS) := by
  have hin : j < S.nl := hl.at.1
  have dm : decide ((200 : Int) ≤ (S.nw : Int)) = true := decide_eq_true (by omega)
  clear hm
  obtain ⟨a0, c0, a1, c1, a2, c2, rfl, rfl, rfl⟩ := h.2.form
  have H : Hid (LiesO w b oo S (.slice a0 S.nc c0) (.slice a1 S.nl c1) (.slice a2 S.nw c2)) := h
  obtain ⟨p0, p1, p2⟩ := h.1
  have hb := h.lt
  obtain ⟨⟨hn0, hn1, hn2⟩, _⟩ := storeF_zero hz
  clear h
  go_enter Tryz.func88, Tryz.ntmps88
  go_wp2_with fail
  refine (l2Copy_own S _ _ _ 0 _ (H.out.2.alloc _) ⟨by omega, by omega, by omega⟩).mono ?_
  rintro e w2 ⟨d0, e0, d1, e1, d2, e2, rfl, o2, q2⟩
  have g0 := own_cap o2.1.1
  have g1 := own_cap o2.1.2.1
  have g2 := own_cap o2.1.2.2
  obtain ⟨s2, fr2, ap2⟩ := o2.all
  simp only [World.size_alloc] at s2 q2 o2
  have BW2 : Below w.heap.size w w2 := (below_alloc w _).trans (q2.mono (Nat.le_succ _))
  have HE : Hid (CmE w b oo S (.slice a0 S.nc c0) (.slice a1 S.nl c1) (.slice a2 S.nw c2) w2.heap.size (.slice d0 S.nc e0) (.slice d1 S.nl e1) (.slice d2 S.nw e2) (w2.alloc (.cells #[.slice d0 S.nc e0, .slice d1 S.nl e1, .slice d2 S.nw e2] 28))) :=
    ⟨((Blk4.new w _ _ _ _ _).kept (q2.block w.heap.size (Nat.lt_succ_self _))).alloc _, Blk3.new _ _ _ _ _, (H.out.later BW2).later (below_alloc _ _), BW2.trans ((below_alloc w2 _).mono BW2.size)⟩
  have HS : Hid ((St w2 (w.heap.size + 1) S (.slice d0 S.nc e0) (.slice d1 S.nl e1) (.slice d2 S.nw e2) ∧ FreeS w2 S (.slice d0 S.nc e0) (.slice d1 S.nl e1) (.slice d2 S.nw e2)) ∧ ApartD S (.slice d0 S.nc e0) (.slice d1 S.nl e1) (.slice d2 S.nw e2)) := ⟨⟨s2, fr2⟩, ap2⟩
  have HOS : Hid (OwnS w2 (w.heap.size + 1) S (.slice d0 S.nc e0) (.slice d1 S.nl e1) (.slice d2 S.nw e2)) := o2
  have hzw : w.heap.size < w2.heap.size := by have := q2.size; simp at this; omega
  have B23 : Hid (Below w2.heap.size w2 (w2.alloc (.cells #[.slice d0 S.nc e0, .slice d1 S.nl e1, .slice d2 S.nw e2] 28))) := below_alloc _ _
  have hbl : b < w2.heap.size := Nat.lt_trans hb hzw
  clear o2 s2 fr2 ap2 q2 BW2 p0 p1 p2
  go_wp2_with fail
  generalize w2.alloc (.cells #[.slice d0 S.nc e0, .slice d1 S.nl e1, .slice d2 S.nw e2] 28) = w3 at HE B23 ⊢
  have hz3 : w2.heap.size < w3.heap.size := HE.out.2.1.lt
  refine (l2Write_isO S b oo _ _ _ a s (-1) _ HE.out.2.2.1 hn2 hi).mono ?_
  rintro e w' ⟨rfl, rfl⟩
  go_wp2_with fail
  refine (l2Lock_isO S b oo _ _ _ a j _ HE.out.2.2.1 hn1 hl).mono ?_
  rintro e w'' ⟨rfl, rfl⟩
  obtain ⟨⟨⟨r0, r1, r2, r3⟩, f0, f1, f2, f3⟩, ⟨⟨t0, t1, t2⟩, _⟩, ⟨⟨p0, p1, p2⟩, pst⟩, _⟩ := HE.out
  obtain ⟨g, o, hg, _, hgl, x0, x1, x2, x3, x4⟩ := pst.2.1.at5 hin
  subst hg
  rw [hj] at x1
  unfold ResStoK
  clear pst
  go_wp2_with fail
  refine (l3At_anyO S b oo _ _ _ a c _ HE.out.2.2.1 hn2).mono ?_
  rintro e w5 ⟨r, rfl, hr, rfl⟩
  obtain rfl : r = false := bool_no hr hat
  clear hr hat
  go_wp2_with fail
  refine (l3Bad_own 2 _).mono ?_
  rintro e w4 ⟨y0, z0, y1, z1, y2, z2, rfl, o4, q4⟩
  have S4 : Hid (OwnS w4 (w.heap.size + 1) emptyS (.slice y0 emptyS.nc z0) (.slice y1 emptyS.nl z1) (.slice y2 emptyS.nw z2)) := o4.mono (Nat.le_trans hzw (Nat.le_of_lt hz3))
  have HBW : Hid (Below w.heap.size w w4) := HE.out.2.2.2.trans (q4.mono HE.out.2.2.2.size)
  obtain ⟨⟨r0, r1, r2, r3⟩, f0, f1, f2, f3⟩ := HE.out.1.later q4
  clear o4 q4
  have hlo : (w.heap.size : Nat) < w.heap.size + 1 := Nat.lt_succ_self _
  go_wp2
  exact bodyPost_ret (v := .agg #[.int .i64 2, .slice y0 emptyS.nc z0, .slice y1 emptyS.nl z1, .slice y2 emptyS.nw z2]) (by simp [results, Tryz.results88, go_sem, r0, r1, r2, r3]) rfl ⟨y0, z0, y1, z1, y2, z2, rfl, ((((S4.out.far hlo _).far hlo _).far hlo _).far hlo _).mono (by omega), (((HBW.out.setCell (Nat.le_refl _) _).setCell (Nat.le_refl _) _).setCell (Nat.le_refl _) _).setCell (Nat.le_refl _) _⟩
end
section
open Go.RowKit
/-- What the last drawn region of l3Commit reads. -/
def CmR (b oo g p : Nat) (v1 : Value) (d : Int) (X : World) : Prop := X.cell? ⟨b, oo + 1, none⟩ = some v1 ∧ X.cell? ⟨g, p, none⟩ = some (.int .i64 d)
theorem CmR.later {b oo g p : Nat} {v1 : Value} {d : Int} {X X' : World} (h : CmR b oo g p v1 d X) (hb : Below X.heap.size X X') : CmR b oo g p v1 d X' :=
  ⟨(hb.cell (p := ⟨b, oo + 1, none⟩) (lt_cell h.1)).trans h.1, (hb.cell (p := ⟨g, p, none⟩) (lt_cell h.2)).trans h.2⟩
theorem CmR.far {b oo g p : Nat} {v1 : Value} {d : Int} {X : World} (h : CmR b oo g p v1 d X) {z k : Nat} (hb : b ≠ z) (hg : g ≠ z) (u : Value) : CmR b oo g p v1 d (X.setCell ⟨z, k, none⟩ u) :=
  ⟨(World.cell?_setCell_other _ _ _ _ (fun q => by have := congrArg Addr.block q; simp at this; omega)).trans h.1, (World.cell?_setCell_other _ _ _ _ (fun q => by have := congrArg Addr.block q; simp at this; omega)).trans h.2⟩
theorem placeAt.one {p : Nat → Prop} {n i k : Nat} (h : placeAt p n i) (h' : placeAt p n k) : i = k := by
  rcases Nat.lt_trichotomy i k with q | q | q
  · exact (h.2.2 (by have := h'.1; omega) (h'.2.1 i q)).elim
  · exact q
  · exact (h'.2.2 (by have := h.1; omega) (h.2.1 k q)).elim
set_option maxRecDepth 100000 in
set_option maxHeartbeats 8000000 in
theorem l3Commit_doneO (S : Sto) (b oo : Nat) (v0 v1 v2 : Value) (a s c : Int) (j : Nat) (w : World) (h : LiesO w b oo S v0 v1 v2) (hz : storeF S = 0) (hi : FirstAt (writeIs S.k a s) S.nw (-1)) (hl : FirstAt (lockIs S.l a) S.nl j) (hj : S.l (j * 5 + 1) = s) (hat : ¬ ∃ i, i < S.nw ∧ writeAt S.k a c i) (hm : S.nw < 200) (k : Nat) (hk : placeAt (aheadW S.k a c) S.nw k) :
    Calls Tryz.prog 88 #[.pointer (some ⟨b, oo, none⟩), .int .i64 a, .int .i64 s, .int .i64 c] w (ResStoK w 0 (commitS S a s c (S.l (j * 5 + 2)) k)) := by
  have hin : j < S.nl := hl.at.1
  have dm : decide ((200 : Int) ≤ (S.nw : Int)) = false := decide_eq_false (by omega)
  obtain ⟨d, hd⟩ : ∃ d, S.l (j * 5 + 2) = d := ⟨_, rfl⟩
  rw [hd]
  have HK : Hid (placeAt (aheadW S.k a c) S.nw k) := hk
  clear hm hk
  obtain ⟨a0, c0, a1, c1, a2, c2, rfl, rfl, rfl⟩ := h.2.form
  have H : Hid (LiesO w b oo S (.slice a0 S.nc c0) (.slice a1 S.nl c1) (.slice a2 S.nw c2)) := h
  obtain ⟨p0, p1, p2⟩ := h.1
  have hb := h.lt
  obtain ⟨⟨hn0, hn1, hn2⟩, _⟩ := storeF_zero hz
  clear h
  go_enter Tryz.func88, Tryz.ntmps88
  go_wp2_with fail
  refine (l2Copy_own S _ _ _ 0 _ (H.out.2.alloc _) ⟨by omega, by omega, by omega⟩).mono ?_
  rintro e w2 ⟨d0, e0, d1, e1, d2, e2, rfl, o2, q2⟩
  have g0 := own_cap o2.1.1
  have g1 := own_cap o2.1.2.1
  have g2 := own_cap o2.1.2.2
  obtain ⟨s2, fr2, ap2⟩ := o2.all
  simp only [World.size_alloc] at s2 q2 o2
  have BW2 : Below w.heap.size w w2 := (below_alloc w _).trans (q2.mono (Nat.le_succ _))
  have HE : Hid (CmE w b oo S (.slice a0 S.nc c0) (.slice a1 S.nl c1) (.slice a2 S.nw c2) w2.heap.size (.slice d0 S.nc e0) (.slice d1 S.nl e1) (.slice d2 S.nw e2) (w2.alloc (.cells #[.slice d0 S.nc e0, .slice d1 S.nl e1, .slice d2 S.nw e2] 28))) :=
    ⟨((Blk4.new w _ _ _ _ _).kept (q2.block w.heap.size (Nat.lt_succ_self _))).alloc _, Blk3.new _ _ _ _ _, (H.out.later BW2).later (below_alloc _ _), BW2.trans ((below_alloc w2 _).mono BW2.size)⟩
  have HS : Hid ((St w2 (w.heap.size + 1) S (.slice d0 S.nc e0) (.slice d1 S.nl e1) (.slice d2 S.nw e2) ∧ FreeS w2 S (.slice d0 S.nc e0) (.slice d1 S.nl e1) (.slice d2 S.nw e2)) ∧ ApartD S (.slice d0 S.nc e0) (.slice d1 S.nl e1) (.slice d2 S.nw e2)) := ⟨⟨s2, fr2⟩, ap2⟩
  have HOS : Hid (OwnS w2 (w.heap.size + 1) S (.slice d0 S.nc e0) (.slice d1 S.nl e1) (.slice d2 S.nw e2)) := o2
  have hzw : w.heap.size < w2.heap.size := by have := q2.size; simp at this; omega
  have B23 : Hid (Below w2.heap.size w2 (w2.alloc (.cells #[.slice d0 S.nc e0, .slice d1 S.nl e1, .slice d2 S.nw e2] 28))) := below_alloc _ _
  have hbl : b < w2.heap.size := Nat.lt_trans hb hzw
  clear o2 s2 fr2 ap2 q2 BW2 p0 p1 p2
  go_wp2_with fail
  generalize w2.alloc (.cells #[.slice d0 S.nc e0, .slice d1 S.nl e1, .slice d2 S.nw e2] 28) = w3 at HE B23 ⊢
  have hz3 : w2.heap.size < w3.heap.size := HE.out.2.1.lt
  refine (l2Write_isO S b oo _ _ _ a s (-1) _ HE.out.2.2.1 hn2 hi).mono ?_
  rintro e w' ⟨rfl, rfl⟩
  go_wp2_with fail
  refine (l2Lock_isO S b oo _ _ _ a j _ HE.out.2.2.1 hn1 hl).mono ?_
  rintro e w'' ⟨rfl, rfl⟩
  obtain ⟨⟨⟨r0, r1, r2, r3⟩, f0, f1, f2, f3⟩, ⟨⟨t0, t1, t2⟩, ft0, ft1, ft2⟩, ⟨⟨p0, p1, p2⟩, pst⟩, _⟩ := HE.out
  obtain ⟨g, o, hg, _, hgl, _, x1, x2, _, _⟩ := H.out.2.2.1.at5 hin
  subst hg
  rw [hj] at x1
  rw [hd] at x2
  replace x1 := (HE.out.2.2.2.cell (p := ⟨g, o + j * 5 + 1, none⟩) hgl).trans x1
  replace x2 := (HE.out.2.2.2.cell (p := ⟨g, o + j * 5 + 2, none⟩) hgl).trans x2
  clear pst
  go_wp2_with fail
  refine (l3At_anyO S b oo _ _ _ a c _ HE.out.2.2.1 hn2).mono ?_
  rintro e w5 ⟨r, rfl, hr, rfl⟩
  obtain rfl : r = false := bool_no hr hat
  clear hr hat
  go_wp2_with fail
  refine (l3Unlock_any S.nl S.l _ (w.heap.size + 1) a s _ (HS.out.1.1.later B23.out).2.1 (by omega)).mono ?_
  rintro e w6 ⟨y1, z1, rfl, O6, q6⟩
  have ft1' : w6.frozen? ⟨w2.heap.size, 1, none⟩ = false := (q6.frozen (p := ⟨w2.heap.size, 1, none⟩) hz3).trans ft1
  have t1' : w6.cell? ⟨w2.heap.size, 1, none⟩ = some (.slice d1 S.nl e1) := (q6.cell (p := ⟨w2.heap.size, 1, none⟩) hz3).trans t1
  have HE6 : Hid (CmE w b oo S (.slice a0 S.nc c0) (.slice (some ⟨g, o, none⟩) S.nl c1) (.slice a2 S.nw c2) w2.heap.size (.slice d0 S.nc e0) (.slice d1 S.nl e1) (.slice d2 S.nw e2) w6) := HE.out.later q6
  have B26 : Hid (Below w2.heap.size w2 w6) := B23.out.trans (q6.mono (Nat.le_of_lt hz3))
  have hgl2 : Hid (w6.cell? ⟨g, o + j * 5 + 2, none⟩ = some (.int .i64 d)) := (q6.cell (p := ⟨g, o + j * 5 + 2, none⟩) (Nat.lt_trans hgl (Nat.lt_trans hzw hz3))).trans x2
  obtain ⟨U, hU⟩ : ∃ U, unlL S.l a s S.nl = U := ⟨_, rfl⟩
  have HU : Hid (unlL S.l a s S.nl = U) := hU
  rw [hU] at O6 ⊢
  have O6' : Hid (OwnM w6 w5.heap.size 62 5 (.slice y1 U.length z1) U.length U.flatten) := O6
  have hz6 : w5.heap.size ≤ w6.heap.size := q6.size
  clear O6 q6 hU r0 r1 r2 r3 f0 f1 f2 f3 t0 t1 t2 ft0 ft1 ft2 p0 p1 p2 x1 x2
  go_upto_region 15 with fail
  -- the world behind the store of the locks
  have BX : Hid (Below w.heap.size w (w6.setCell ⟨w2.heap.size, 1, none⟩ (.slice y1 U.length z1))) := HE6.out.2.2.2.setCell (Nat.le_of_lt hzw) _
  have B2X : Hid (Below w2.heap.size w2 (w6.setCell ⟨w2.heap.size, 1, none⟩ (.slice y1 U.length z1))) := B26.out.setCell (Nat.le_refl _) _
  have RX : Hid (Blk4 (w6.setCell ⟨w2.heap.size, 1, none⟩ (.slice y1 U.length z1)) w.heap.size (.int .i64 0) (.slice none 0 0) (.slice none 0 0) (.slice none 0 0)) := HE6.out.1.kept (Below.heap_setCell _ _ _ _ (Nat.ne_of_lt hzw))
  have TX : Hid (Blk3 (w6.setCell ⟨w2.heap.size, 1, none⟩ (.slice y1 U.length z1)) w2.heap.size (.slice d0 S.nc e0) (.slice y1 U.length z1) (.slice d2 S.nw e2)) := HE6.out.2.1.set1 _
  have OX : Hid (OwnM (w6.setCell ⟨w2.heap.size, 1, none⟩ (.slice y1 U.length z1)) w5.heap.size 62 5 (.slice y1 U.length z1) U.length U.flatten) := O6'.out.far hz3 _
  have LX : Hid (LiesO (w6.setCell ⟨w2.heap.size, 1, none⟩ (.slice y1 U.length z1)) b oo S (.slice a0 S.nc c0) (.slice (some ⟨g, o, none⟩) S.nl c1) (.slice a2 S.nw c2)) := H.out.later BX.out
  have GX : Hid ((w6.setCell ⟨w2.heap.size, 1, none⟩ (.slice y1 U.length z1)).cell? ⟨g, o + j * 5 + 2, none⟩ = some (.int .i64 d)) := (World.cell?_setCell_other _ _ _ _ (fun q => by have := congrArg Addr.block q; simp at this; omega)).trans hgl2.out
  have zX : w2.heap.size < (w6.setCell ⟨w2.heap.size, 1, none⟩ (.slice y1 U.length z1)).heap.size := TX.out.lt
  have z5X : w5.heap.size ≤ (w6.setCell ⟨w2.heap.size, 1, none⟩ (.slice y1 U.length z1)).heap.size := by simpa [World.setCell] using hz6
  generalize w6.setCell ⟨w2.heap.size, 1, none⟩ (.slice y1 U.length z1) = X0 at BX B2X RX TX OX LX GX zX z5X ⊢
  clear HE6 O6' B26 hgl2 hz6 t1' ft1' HE
  refine wp_region_held_drew (S := CmR b oo g (o + j * 5 + 2) (.slice (some ⟨g, o, none⟩) S.nl c1) d) (by kernel_rfl) ⟨LX.out.1.2.1, GX.out⟩ (fun hS => ?_)
  refine tkH 0 ?_ hS (fun wx hx => ?_) ?_; rotate_left
  · obtain ⟨hx0, hx1⟩ := hx; go_simp; try with_reducible rfl
  refine tkH 2 ?_ hS (fun wx hx => ?_) ?_; rotate_left
  · obtain ⟨hx0, hx1⟩ := hx; go_simp; try with_reducible rfl
  refine tkH 3 ?_ hS (fun wx hx => ?_) ?_; rotate_left
  · obtain ⟨hx0, hx1⟩ := hx; go_simp; try with_reducible rfl
  refine tkH 4 ?_ hS (fun wx hx => ?_) ?_; rotate_left
  · obtain ⟨hx0, hx1⟩ := hx; go_simp; try with_reducible rfl
  refine tkH 5 ?_ hS (fun wx hx => ?_) ?_; rotate_left
  · obtain ⟨hx0, hx1⟩ := hx; go_simp; try with_reducible rfl
  refine tkH 6 ?_ hS (fun wx hx => ?_) ?_; rotate_left
  · obtain ⟨hx0, hx1⟩ := hx; go_simp; try with_reducible rfl
  refine tkH 7 ?_ hS (fun wx hx => ?_) ?_; rotate_left
  · obtain ⟨hx0, hx1⟩ := hx; go_simp; try with_reducible rfl
  refine tkH 8 ?_ hS (fun wx hx => ?_) ?_; rotate_left
  · obtain ⟨hx0, hx1⟩ := hx; go_simp; try with_reducible rfl
  refine tkH 9 ?_ hS (fun wx hx => ?_) ?_; rotate_left
  · obtain ⟨hx0, hx1⟩ := hx; go_simp; try with_reducible rfl
  refine tkH 10 ?_ hS (fun wx hx => ?_) ?_; rotate_left
  · obtain ⟨hx0, hx1⟩ := hx; go_simp; try with_reducible rfl
  refine tkH 11 ?_ hS (fun wx hx => ?_) ?_; rotate_left
  · obtain ⟨hx0, hx1⟩ := hx; go_simp; try with_reducible rfl
  refine tkH 12 ?_ hS (fun wx hx => ?_) ?_; rotate_left
  · obtain ⟨hx0, hx1⟩ := hx; go_simp; try with_reducible rfl
  refine tkH 13 ?_ hS (fun wx hx => ?_) ?_; rotate_left
  · obtain ⟨hx0, hx1⟩ := hx; go_simp; try with_reducible rfl
  have tx2 : X0.cell? ⟨w2.heap.size, 2, none⟩ = some (.slice d2 S.nw e2) := TX.out.1.2.2
  refine rdH 1 (fun K hK => ?_)
  go_simp
  refine hK.out _ _ hS (fun hS => ?_)
  clear hK K tx2
  refine rdH 14 (fun K hK => ?_)
  go_simp
  go_wp2_with fail
  refine (l2AddWrite_any S.nw S.k d2 e2 (w.heap.size + 1) a c s d _ ((HS.out.1.1.2.2.later B2X.out).drewN 1) (by omega) g2).mono ?_
  rintro e w7 ⟨k', y2, z2, hk', rfl, O7, q70⟩
  have q7 : Below X0.heap.size X0 w7 := ⟨q70.os, q70.tape, q70.output, q70.size, q70.block⟩
  clear q70
  obtain rfl : k' = k := hk'.one HK.out
  have BY : Hid (Below w.heap.size w w7) := BX.out.trans (q7.mono BX.out.size)
  have B2Y : Hid (Below w2.heap.size w2 w7) := B2X.out.trans (q7.mono (Nat.le_of_lt zX))
  have RY : Hid (Blk4 w7 w.heap.size (.int .i64 0) (.slice none 0 0) (.slice none 0 0) (.slice none 0 0)) := RX.out.later q7
  have TY : Hid (Blk3 w7 w2.heap.size (.slice d0 S.nc e0) (.slice y1 U.length z1) (.slice d2 S.nw e2)) := TX.out.later q7
  have OY : Hid (OwnM w7 w5.heap.size 62 5 (.slice y1 U.length z1) U.length U.flatten) := OX.out.later q7
  have hob : Hid (∀ q, (Value.slice y1 U.length z1).ownBlock = some q → w5.heap.size ≤ q ∧ q < X0.heap.size) := OX.out.block
  have PY : Hid (OwnM w7 X0.heap.size 36 4 (.slice y2 (S.nw + 1) z2) (S.nw + 1) (nums S.k (k' * 4) ++ [a, c, s, d] ++ nums (fun p => S.k (k' * 4 + p)) ((S.nw - k') * 4))) := O7
  have S7 := CmR.later (X := X0) hS q7
  have hkn : k' ≤ S.nw := hk'.1
  clear O7 q7 hk' OX RX TX LX GX BX B2X hS HK
  go_wp2_with fail
  refine hK.out _ _ S7 (fun hS => ?_)
  clear hK K S7
  refine tkH 15 ?_ hS (fun wx hx => ?_) ?_; rotate_left
  · obtain ⟨hx0, hx1⟩ := hx; go_simp; try with_reducible rfl
  obtain ⟨⟨t0, t1, t2⟩, ft0, ft1, ft2⟩ := TY.out
  refine rdH 16 (fun K hK => ?_)
  go_simp
  refine hK.out _ _ (hS.far (Nat.ne_of_lt hbl) (Nat.ne_of_lt (Nat.lt_trans hgl hzw)) _) (fun hS => ?_)
  clear hK K
  have RZ := RY.out.kept (Below.heap_setCell w7 ⟨w2.heap.size, 2, none⟩ (.slice y2 (S.nw + 1) z2) _ (Nat.ne_of_lt hzw))
  have TZ := TY.out.set2 (.slice y2 (S.nw + 1) z2)
  have BZ : Hid (Below w.heap.size w (w7.setCell ⟨w2.heap.size, 2, none⟩ (.slice y2 (S.nw + 1) z2))) := BY.out.setCell (Nat.le_of_lt hzw) _
  have B2Z : Hid (Below w2.heap.size w2 (w7.setCell ⟨w2.heap.size, 2, none⟩ (.slice y2 (S.nw + 1) z2))) := B2Y.out.setCell (Nat.le_refl _) _
  have OZ : Hid (OwnM (w7.setCell ⟨w2.heap.size, 2, none⟩ (.slice y2 (S.nw + 1) z2)) w5.heap.size 62 5 (.slice y1 U.length z1) U.length U.flatten) := OY.out.far hz3 _
  have PZ : Hid (OwnM (w7.setCell ⟨w2.heap.size, 2, none⟩ (.slice y2 (S.nw + 1) z2)) X0.heap.size 36 4 (.slice y2 (S.nw + 1) z2) (S.nw + 1) (nums S.k (k' * 4) ++ [a, c, s, d] ++ nums (fun p => S.k (k' * 4 + p)) ((S.nw - k') * 4))) := PY.out.far zX _
  generalize w7.setCell ⟨w2.heap.size, 2, none⟩ (.slice y2 (S.nw + 1) z2) = w8 at RZ TZ BZ B2Z OZ PZ hS ⊢
  clear t0 t1 t2 ft0 ft1 ft2 RY TY BY B2Y OY PY
  refine wpAnyH_done (by kernel_rfl) ?_ _
  go_simp
  obtain ⟨⟨r0, r1, r2, r3⟩, f0, f1, f2, f3⟩ := RZ
  obtain ⟨⟨t0, t1, t2⟩, _⟩ := TZ
  go_wp2
  have lenL : U.flatten.length = U.length * 5 := flat_len U (by rw [← HU.out]; exact selD_len _ _ _ _)
  have lenW : (nums S.k (k' * 4) ++ [a, c, s, d] ++ nums (fun p => S.k (k' * 4 + p)) ((S.nw - k') * 4)).length = (S.nw + 1) * 4 := by
    rw [List.length_append, List.length_append, nums_length, nums_length]
    simp only [List.length_cons, List.length_nil]
    omega
  have rC : Row w8 (w.heap.size + 1) 3 S.nc S.c (.slice d0 S.nc e0) := HS.out.1.1.1.later B2Z.out
  have fC : Free w8 (S.nc * 3) (.slice d0 S.nc e0) := HS.out.1.2.1.ofRow HS.out.1.1.1 B2Z.out
  have rL := (OZ.out.own lenL).row
  have rW := (PZ.out.own lenW).row
  have O8 : OwnS w8 (w.heap.size + 1) (commitS S a s c d k') (.slice d0 S.nc e0) (.slice y1 U.length z1) (.slice y2 (S.nw + 1) z2) := by
    unfold commitS
    rw [HU.out]
    exact ⟨⟨HOS.out.1.1.later B2Z.out, (OZ.out.own lenL).mono (by omega), (PZ.out.own lenW).mono (by omega)⟩, fun q a b => by have h1 := (own_blk HOS.out.1.1 q a).2; have h2 := (hob.out q b).1; omega, fun q a b => by have h1 := (own_blk HOS.out.1.1 q a).2; have h2 := (PZ.out.block q b).1; omega, fun q a b => by have h1 := (hob.out q a).2; have h2 := (PZ.out.block q b).1; omega⟩
  have hlo : (w.heap.size : Nat) < w.heap.size + 1 := Nat.lt_succ_self _
  have hul : (commitS S a s c d k').nl = U.length := by unfold commitS; rw [HU.out]
  refine bodyPost_ret (v := .agg #[.int .i64 0, .slice d0 S.nc e0, .slice y1 U.length z1, .slice y2 (S.nw + 1) z2]) (by simp [results, Tryz.results88, go_sem, r0, r1, r2, r3]) rfl ?_
  refine ⟨d0, e0, y1, z1, y2, z2, ?_, ?_, (((BZ.out.setCell (Nat.le_refl _) _).setCell (Nat.le_refl _) _).setCell (Nat.le_refl _) _).setCell (Nat.le_refl _) _⟩
  · rw [hul]; rfl
  · rw [hul]
    exact ((((O8.far hlo _).far hlo _).far hlo _).far hlo _).mono (by omega)
end
section
open Go.RowKit
/-- What a commit comes to on a store without a fault: a code and a store. -/
def CommitRes (S : Sto) (a s c : Int) (r : Int) (R : Sto) : Prop :=
  (∃ i : Nat, FirstAt (writeIs S.k a s) S.nw i ∧ S.k (i * 4 + 1) = c ∧ r = 0 ∧ R = S) ∨
  (∃ i : Nat, FirstAt (writeIs S.k a s) S.nw i ∧ S.k (i * 4 + 1) ≠ c ∧ r = 6 ∧ R = emptyS) ∨
  (FirstAt (writeIs S.k a s) S.nw (-1) ∧ (FirstAt (lockIs S.l a) S.nl (-1) ∨ ∃ j : Nat, FirstAt (lockIs S.l a) S.nl j ∧ S.l (j * 5 + 1) ≠ s) ∧ r = 4 ∧ R = emptyS) ∨
  (∃ j : Nat, FirstAt (writeIs S.k a s) S.nw (-1) ∧ FirstAt (lockIs S.l a) S.nl j ∧ S.l (j * 5 + 1) = s ∧ (∃ i, i < S.nw ∧ writeAt S.k a c i) ∧ r = 6 ∧ R = emptyS) ∨
  (∃ j : Nat, FirstAt (writeIs S.k a s) S.nw (-1) ∧ FirstAt (lockIs S.l a) S.nl j ∧ S.l (j * 5 + 1) = s ∧ (¬ ∃ i, i < S.nw ∧ writeAt S.k a c i) ∧ 200 ≤ S.nw ∧ r = 2 ∧ R = emptyS) ∨
  (∃ j k : Nat, FirstAt (writeIs S.k a s) S.nw (-1) ∧ FirstAt (lockIs S.l a) S.nl j ∧ S.l (j * 5 + 1) = s ∧ (¬ ∃ i, i < S.nw ∧ writeAt S.k a c i) ∧ S.nw < 200 ∧ placeAt (aheadW S.k a c) S.nw k ∧ r = 0 ∧ R = commitS S a s c (S.l (j * 5 + 2)) k)
theorem l3Commit_ownO (S : Sto) (b oo : Nat) (v0 v1 v2 : Value) (a s c r : Int) (R : Sto) (w : World) (h : LiesO w b oo S v0 v1 v2) (hz : storeF S = 0) (hA : CommitRes S a s c r R) :
    Calls Tryz.prog 88 #[.pointer (some ⟨b, oo, none⟩), .int .i64 a, .int .i64 s, .int .i64 c] w (ResStoK w r R) := by
  rcases hA with ⟨i, h1, h2, rfl, rfl⟩ | ⟨i, h1, h2, rfl, rfl⟩ | ⟨h1, h2, rfl, rfl⟩ | ⟨j, h1, h2, h3, h4, rfl, rfl⟩ | ⟨j, h1, h2, h3, h4, h5, rfl, rfl⟩ | ⟨j, k, h1, h2, h3, h4, h5, h6, rfl, rfl⟩
  · exact l3Commit_sameO _ b oo v0 v1 v2 a s c i w h hz h1 h2
  · exact l3Commit_takenO S b oo v0 v1 v2 a s c i w h hz h1 h2
  · exact l3Commit_noneO S b oo v0 v1 v2 a s c w h hz h1 h2
  · exact l3Commit_atO S b oo v0 v1 v2 a s c j w h hz h1 h2 h3 h4
  · exact l3Commit_manyO S b oo v0 v1 v2 a s c j w h hz h1 h2 h3 h4 h5
  · exact l3Commit_doneO S b oo v0 v1 v2 a s c j w h hz h1 h2 h3 h4 h5 k h6
def CommitAns (S : Sto) (a s c : Int) (r : Int) (R : Sto) : Prop :=
  (askF S a ≠ 0 ∧ r = askF S a ∧ R = emptyS) ∨ (askF S a = 0 ∧ ¬ isT s ∧ r = 3 ∧ R = emptyS) ∨ (askF S a = 0 ∧ isT s ∧ ¬ isT c ∧ r = 3 ∧ R = emptyS) ∨ (askF S a = 0 ∧ isT s ∧ isT c ∧ c ≤ s ∧ r = 1 ∧ R = emptyS) ∨ (askF S a = 0 ∧ isT s ∧ isT c ∧ s < c ∧ CommitRes S a s c r R)
set_option maxRecDepth 100000 in
set_option maxHeartbeats 8000000 in
theorem specCommitKey_own (S : Sto) (v0 v1 v2 : Value) (a s c r : Int) (R : Sto) (B : Nat) (w : World) (h : St w B S v0 v1 v2) (hA : CommitAns S a s c r R) :
    Calls Tryz.prog 65 #[.agg #[v0, v1, v2], .int .i64 a, .int .i64 s, .int .i64 c] w (ResStoK w r R) := by
  obtain ⟨a0, c0, a1, c1, a2, c2, rfl, rfl, rfl⟩ := h.form
  have HE : Hid (CallSto w B S (.slice a0 S.nc c0) (.slice a1 S.nl c1) (.slice a2 S.nw c2) ((w.alloc (.cells #[.slice a0 S.nc c0, .slice a1 S.nl c1, .slice a2 S.nw c2] 28)).alloc (.cells #[.int .i64 0, .slice none 0 0, .slice none 0 0, .slice none 0 0] 32))) := CallSto.new h _ _
  clear h
  unfold ResStoK
  rcases hA with ⟨hz, rfl, rfl⟩ | ⟨hz, ht, rfl, rfl⟩ | ⟨hz, ht, ht2, rfl, rfl⟩ | ⟨hz, ht, ht2, hc, rfl, rfl⟩ | ⟨hz, ht, ht2, hc, hR⟩
  · obtain ⟨f, hf⟩ : ∃ f, askF S a = f := ⟨_, rfl⟩
    have HF : Hid (askF S a = f) := hf
    have hfn : (f == 0) = false := beq_eq_false_iff_ne.2 (by rw [← hf]; exact hz)
    have hfn' : (f != 0) = true := by rw [bne_iff_ne, ← hf]; exact hz
    rw [hf]
    clear hz hf
    go_enter Tryz.func65, Tryz.ntmps65
    go_wp2_with fail
    refine (asked_any S w.heap.size _ _ _ _ _ ⟨HE.out.1.1, HE.out.2.2.1.mono (Nat.zero_le _)⟩).mono ?_
    rw [HF.out]
    rintro e w1 ⟨rfl, q1⟩
    have HE : Hid (CallSto w B S (.slice a0 S.nc c0) (.slice a1 S.nl c1) (.slice a2 S.nw c2) w1) := HE.out.later q1
    obtain ⟨⟨⟨p0, p1, p2⟩, _⟩, ⟨⟨r0, r1, r2, r3⟩, f0, f1, f2, f3⟩, _⟩ := HE.out
    clear q1
    go_wp2_with fail
    refine (l3Bad_own f _).mono ?_
    rintro e w4 ⟨d0, e0, d1, e1, d2, e2, rfl, o3, q4⟩
    have z3 : Hid (w.heap.size + 2 ≤ w1.heap.size) := HE.out.2.1.lt
    have S3 : Hid (OwnS w4 (w.heap.size + 2) emptyS (.slice d0 (emptyS).nc e0) (.slice d1 (emptyS).nl e1) (.slice d2 (emptyS).nw e2)) := o3.mono z3.out
    have HBW : Hid (Below w.heap.size w w4) := HE.out.2.2.2.trans (q4.mono HE.out.2.2.2.size)
    obtain ⟨⟨r0, r1, r2, r3⟩, f0, f1, f2, f3⟩ := HE.out.2.1.later q4
    clear o3 q4
    have hlo : (w.heap.size + 1 : Nat) < w.heap.size + 2 := Nat.lt_succ_self _
    go_wp2
    exact bodyPost_ret (v := .agg #[.int .i64 f, .slice d0 (emptyS).nc e0, .slice d1 (emptyS).nl e1, .slice d2 (emptyS).nw e2]) (by simp [results, Tryz.results65, go_sem, r0, r1, r2, r3]) rfl ⟨d0, e0, d1, e1, d2, e2, rfl, ((((S3.out.far hlo _).far hlo _).far hlo _).far hlo _).mono (by omega), (((HBW.out.setCell (Nat.le_succ _) _).setCell (Nat.le_succ _) _).setCell (Nat.le_succ _) _).setCell (Nat.le_succ _) _⟩
  · have HA : Hid (askF S a = 0) := hz
    have HT : Hid (decide (1 ≤ s ∧ s ≤ 100000) = false) := decide_eq_false ht
    clear hz ht
    go_enter Tryz.func65, Tryz.ntmps65
    go_wp2_with fail
    refine (asked_any S w.heap.size _ _ _ _ _ ⟨HE.out.1.1, HE.out.2.2.1.mono (Nat.zero_le _)⟩).mono ?_
    rw [HA.out]
    rintro e w1 ⟨rfl, q1⟩
    have HE : Hid (CallSto w B S (.slice a0 S.nc c0) (.slice a1 S.nl c1) (.slice a2 S.nw c2) w1) := HE.out.later q1
    obtain ⟨⟨⟨p0, p1, p2⟩, _⟩, ⟨⟨r0, r1, r2, r3⟩, f0, f1, f2, f3⟩, _⟩ := HE.out
    clear q1
    go_wp2_with fail
    refine (l2Ts_is s false HT.out _).mono ?_
    rintro e w1' ⟨rfl, rfl⟩
    go_wp2_with fail
    refine (l3Bad_own 3 _).mono ?_
    rintro e w4 ⟨d0, e0, d1, e1, d2, e2, rfl, o3, q4⟩
    have z3 : Hid (w.heap.size + 2 ≤ w1'.heap.size) := HE.out.2.1.lt
    have S3 : Hid (OwnS w4 (w.heap.size + 2) emptyS (.slice d0 (emptyS).nc e0) (.slice d1 (emptyS).nl e1) (.slice d2 (emptyS).nw e2)) := o3.mono z3.out
    have HBW : Hid (Below w.heap.size w w4) := HE.out.2.2.2.trans (q4.mono HE.out.2.2.2.size)
    obtain ⟨⟨r0, r1, r2, r3⟩, f0, f1, f2, f3⟩ := HE.out.2.1.later q4
    clear o3 q4
    have hlo : (w.heap.size + 1 : Nat) < w.heap.size + 2 := Nat.lt_succ_self _
    go_wp2
    exact bodyPost_ret (v := .agg #[.int .i64 3, .slice d0 (emptyS).nc e0, .slice d1 (emptyS).nl e1, .slice d2 (emptyS).nw e2]) (by simp [results, Tryz.results65, go_sem, r0, r1, r2, r3]) rfl ⟨d0, e0, d1, e1, d2, e2, rfl, ((((S3.out.far hlo _).far hlo _).far hlo _).far hlo _).mono (by omega), (((HBW.out.setCell (Nat.le_succ _) _).setCell (Nat.le_succ _) _).setCell (Nat.le_succ _) _).setCell (Nat.le_succ _) _⟩
  · have HA : Hid (askF S a = 0) := hz
    have HT : Hid (decide (1 ≤ s ∧ s ≤ 100000) = true) := decide_eq_true ht
    have HT2 : Hid (decide (1 ≤ c ∧ c ≤ 100000) = false) := decide_eq_false ht2
    clear hz ht ht2
    go_enter Tryz.func65, Tryz.ntmps65
    go_wp2_with fail
    refine (asked_any S w.heap.size _ _ _ _ _ ⟨HE.out.1.1, HE.out.2.2.1.mono (Nat.zero_le _)⟩).mono ?_
    rw [HA.out]
    rintro e w1 ⟨rfl, q1⟩
    have HE : Hid (CallSto w B S (.slice a0 S.nc c0) (.slice a1 S.nl c1) (.slice a2 S.nw c2) w1) := HE.out.later q1
    obtain ⟨⟨⟨p0, p1, p2⟩, _⟩, ⟨⟨r0, r1, r2, r3⟩, f0, f1, f2, f3⟩, _⟩ := HE.out
    clear q1
    go_wp2_with fail
    refine (l2Ts_is s true HT.out _).mono ?_
    rintro e w1' ⟨rfl, rfl⟩
    go_wp2_with fail
    refine (l2Ts_is c false HT2.out _).mono ?_
    rintro e w1' ⟨rfl, rfl⟩
    go_wp2_with fail
    refine (l3Bad_own 3 _).mono ?_
    rintro e w4 ⟨d0, e0, d1, e1, d2, e2, rfl, o3, q4⟩
    have z3 : Hid (w.heap.size + 2 ≤ w1'.heap.size) := HE.out.2.1.lt
    have S3 : Hid (OwnS w4 (w.heap.size + 2) emptyS (.slice d0 (emptyS).nc e0) (.slice d1 (emptyS).nl e1) (.slice d2 (emptyS).nw e2)) := o3.mono z3.out
    have HBW : Hid (Below w.heap.size w w4) := HE.out.2.2.2.trans (q4.mono HE.out.2.2.2.size)
    obtain ⟨⟨r0, r1, r2, r3⟩, f0, f1, f2, f3⟩ := HE.out.2.1.later q4
    clear o3 q4
    have hlo : (w.heap.size + 1 : Nat) < w.heap.size + 2 := Nat.lt_succ_self _
    go_wp2
    exact bodyPost_ret (v := .agg #[.int .i64 3, .slice d0 (emptyS).nc e0, .slice d1 (emptyS).nl e1, .slice d2 (emptyS).nw e2]) (by simp [results, Tryz.results65, go_sem, r0, r1, r2, r3]) rfl ⟨d0, e0, d1, e1, d2, e2, rfl, ((((S3.out.far hlo _).far hlo _).far hlo _).far hlo _).mono (by omega), (((HBW.out.setCell (Nat.le_succ _) _).setCell (Nat.le_succ _) _).setCell (Nat.le_succ _) _).setCell (Nat.le_succ _) _⟩
  · have HA : Hid (askF S a = 0) := hz
    have HT : Hid (decide (1 ≤ s ∧ s ≤ 100000) = true) := decide_eq_true ht
    have HT2 : Hid (decide (1 ≤ c ∧ c ≤ 100000) = true) := decide_eq_true ht2
    have dc : decide (c ≤ s) = true := decide_eq_true hc
    clear hz ht ht2 hc
    go_enter Tryz.func65, Tryz.ntmps65
    go_wp2_with fail
    refine (asked_any S w.heap.size _ _ _ _ _ ⟨HE.out.1.1, HE.out.2.2.1.mono (Nat.zero_le _)⟩).mono ?_
    rw [HA.out]
    rintro e w1 ⟨rfl, q1⟩
    have HE : Hid (CallSto w B S (.slice a0 S.nc c0) (.slice a1 S.nl c1) (.slice a2 S.nw c2) w1) := HE.out.later q1
    obtain ⟨⟨⟨p0, p1, p2⟩, _⟩, ⟨⟨r0, r1, r2, r3⟩, f0, f1, f2, f3⟩, _⟩ := HE.out
    clear q1
    go_wp2_with fail
    refine (l2Ts_is s true HT.out _).mono ?_
    rintro e w1' ⟨rfl, rfl⟩
    go_wp2_with fail
    refine (l2Ts_is c true HT2.out _).mono ?_
    rintro e w1' ⟨rfl, rfl⟩
    go_wp2_with fail
    refine (l3Bad_own 1 _).mono ?_
    rintro e w4 ⟨d0, e0, d1, e1, d2, e2, rfl, o3, q4⟩
    have z3 : Hid (w.heap.size + 2 ≤ w1'.heap.size) := HE.out.2.1.lt
    have S3 : Hid (OwnS w4 (w.heap.size + 2) emptyS (.slice d0 (emptyS).nc e0) (.slice d1 (emptyS).nl e1) (.slice d2 (emptyS).nw e2)) := o3.mono z3.out
    have HBW : Hid (Below w.heap.size w w4) := HE.out.2.2.2.trans (q4.mono HE.out.2.2.2.size)
    obtain ⟨⟨r0, r1, r2, r3⟩, f0, f1, f2, f3⟩ := HE.out.2.1.later q4
    clear o3 q4
    have hlo : (w.heap.size + 1 : Nat) < w.heap.size + 2 := Nat.lt_succ_self _
    go_wp2
    exact bodyPost_ret (v := .agg #[.int .i64 1, .slice d0 (emptyS).nc e0, .slice d1 (emptyS).nl e1, .slice d2 (emptyS).nw e2]) (by simp [results, Tryz.results65, go_sem, r0, r1, r2, r3]) rfl ⟨d0, e0, d1, e1, d2, e2, rfl, ((((S3.out.far hlo _).far hlo _).far hlo _).far hlo _).mono (by omega), (((HBW.out.setCell (Nat.le_succ _) _).setCell (Nat.le_succ _) _).setCell (Nat.le_succ _) _).setCell (Nat.le_succ _) _⟩
  · have HA : Hid (askF S a = 0) := hz
    have HT : Hid (decide (1 ≤ s ∧ s ≤ 100000) = true) := decide_eq_true ht
    have HT2 : Hid (decide (1 ≤ c ∧ c ≤ 100000) = true) := decide_eq_true ht2
    have dc : decide (c ≤ s) = false := decide_eq_false (by omega)
    have HP : Hid (∀ (b : Nat) (u0 u1 u2 : Value) (x : World), Lies x b S u0 u1 u2 → Calls Tryz.prog 88 #[.pointer (some ⟨b, 0, none⟩), .int .i64 a, .int .i64 s, .int .i64 c] x (ResStoK x r R)) := fun b u0 u1 u2 x hx => l3Commit_ownO S b 0 u0 u1 u2 a s c r R x hx (askF_zero hz).1 hR
    clear hz ht ht2 hc hR
    go_enter Tryz.func65, Tryz.ntmps65
    go_wp2_with fail
    refine (asked_any S w.heap.size _ _ _ _ _ ⟨HE.out.1.1, HE.out.2.2.1.mono (Nat.zero_le _)⟩).mono ?_
    rw [HA.out]
    rintro e w1 ⟨rfl, q1⟩
    have HE : Hid (CallSto w B S (.slice a0 S.nc c0) (.slice a1 S.nl c1) (.slice a2 S.nw c2) w1) := HE.out.later q1
    obtain ⟨⟨⟨p0, p1, p2⟩, _⟩, ⟨⟨r0, r1, r2, r3⟩, f0, f1, f2, f3⟩, _⟩ := HE.out
    clear q1
    go_wp2_with fail
    refine (l2Ts_is s true HT.out _).mono ?_
    rintro e w1' ⟨rfl, rfl⟩
    go_wp2_with fail
    refine (l2Ts_is c true HT2.out _).mono ?_
    rintro e w1' ⟨rfl, rfl⟩
    go_wp2_with fail
    refine (HP.out w.heap.size _ _ _ _ ⟨HE.out.1.1, HE.out.2.2.1.mono (Nat.zero_le _)⟩).mono ?_
    rintro e w4 ⟨d0, e0, d1, e1, d2, e2, rfl, o3, q4⟩
    have z3 : Hid (w.heap.size + 2 ≤ w1'.heap.size) := HE.out.2.1.lt
    have S3 : Hid (OwnS w4 (w.heap.size + 2) R (.slice d0 (R).nc e0) (.slice d1 (R).nl e1) (.slice d2 (R).nw e2)) := o3.mono z3.out
    have HBW : Hid (Below w.heap.size w w4) := HE.out.2.2.2.trans (q4.mono HE.out.2.2.2.size)
    obtain ⟨⟨r0, r1, r2, r3⟩, f0, f1, f2, f3⟩ := HE.out.2.1.later q4
    clear o3 q4
    have hlo : (w.heap.size + 1 : Nat) < w.heap.size + 2 := Nat.lt_succ_self _
    go_wp2
    exact bodyPost_ret (v := .agg #[.int .i64 r, .slice d0 (R).nc e0, .slice d1 (R).nl e1, .slice d2 (R).nw e2]) (by simp [results, Tryz.results65, go_sem, r0, r1, r2, r3]) rfl ⟨d0, e0, d1, e1, d2, e2, rfl, ((((S3.out.far hlo _).far hlo _).far hlo _).far hlo _).mono (by omega), (((HBW.out.setCell (Nat.le_succ _) _).setCell (Nat.le_succ _) _).setCell (Nat.le_succ _) _).setCell (Nat.le_succ _) _⟩
end
end Go.Proofs.YtgedodcojalidaaGreat

namespace Go.Proofs.YtgedodcojalidaaGreat
section
open Go.RowKit Go.Lib
theorem Blkk.frozen {x : World} {g : Nat} {e : TypeId} {N : Nat} (h : Blkk x g e N) (p : Nat) : x.frozen? ⟨g, p, none⟩ = false := by
  obtain ⟨cur, h1, _⟩ := h
  simp [World.frozen?, h1]
theorem Blkk.drew {x : World} {g : Nat} {e : TypeId} {N : Nat} (h : Blkk x g e N) : Blkk x.drew g e N := h
theorem Blkk.made (w : World) (ROW : Array Value) (e : TypeId) (N : Nat) (h : ROW.size = N) : Blkk (w.alloc (.cells ROW e)) w.heap.size e N := ⟨ROW, by show (w.heap.push _)[w.heap.size]? = _; simp, h⟩
theorem Blkk.any {x : World} {g : Nat} {e : TypeId} {N : Nat} (h : Blkk x g e N) {p : Nat} (hp : p < N) : (x.cell? ⟨g, p, none⟩).isSome = true := by
  obtain ⟨u, hu⟩ := (h.cell hp).1
  rw [hu]; rfl
end

section
open Go.RowKit Go.Lib
end

section
open Go.RowKit Go.Lib
end
end Go.Proofs.YtgedodcojalidaaGreat

namespace Go.Proofs.YtgedodcojalidaaGreat
section
open Go.RowKit
theorem AW.later {w X X' : World} {B n : Nat} {F : Nat → Int} {ao : Option Addr} {cp : Nat} {x0 x1 x2 x3 : Int} (h : AW w B n F ao cp x0 x1 x2 x3 X) (h0 : Row w B 4 n F (.slice ao n cp)) (hb : Below X.heap.size X X') : AW w B n F ao cp x0 x1 x2 x3 X' :=
  h.grown h0 (row := none) ⟨hb.os, hb.tape, hb.output, hb.size, fun k hk _ => hb.block k hk⟩ (fun r e => by cases e)
end

section
open Go.RowKit
theorem AL.later {w X X' : World} {B n : Nat} {F : Nat → Int} {ao : Option Addr} {cp : Nat} {x0 x1 x2 x3 x4 : Int} (h : AL w B n F ao cp x0 x1 x2 x3 x4 X) (h0 : Row w B 5 n F (.slice ao n cp)) (hb : Below X.heap.size X X') : AL w B n F ao cp x0 x1 x2 x3 x4 X' :=
  h.grown h0 (row := none) ⟨hb.os, hb.tape, hb.output, hb.size, fun k hk _ => hb.block k hk⟩ (fun r e => by cases e)
end
end Go.Proofs.YtgedodcojalidaaGreat

namespace Go.Proofs.YtgedodcojalidaaGreat
section
open Go.RowKit Go.Maps
theorem kp_same {p q x y : Int} (hp : Wf p) (hq : Wf q) (hx : Wf x) (hy : Wf y) : (kp p q).sameKey (kp x y) = decide (p = x ∧ q = y) := by
  by_cases e : p = x ∧ q = y
  · obtain ⟨rfl, rfl⟩ := e
    simp [kp, Lit.sameKey]
  · rw [decide_eq_false e]
    have : kp p q ≠ kp x y := fun h => e (kp_inj hp hq hx hy h)
    unfold kp at this ⊢
    unfold Lit.sameKey
    rw [beq_eq_false_iff_ne]
    exact fun h => this (by rw [h])
theorem lits_int {m : Nat} {c : Value} {ls : List Lit} (h : Tryz.prog.keyLits (m + 1) 2 [c] = some ls) : ∃ x, c = .int .i64 x ∧ ls = [.int .i64 x] ∧ Wf x := by
  unfold Program.keyLits at h
  simp only [Tryz.underlying2] at h
  cases c <;> simp at h
  obtain ⟨⟨rfl, hw⟩, rfl⟩ := h
  exact ⟨_, rfl, rfl, hw⟩
theorem keyOf_place_inv {key : Value} {kl : Lit} (h : keyOf Tryz.prog 76 key = some kl) : ∃ x y, key = .agg #[.int .i64 x, .int .i64 y] ∧ kl = kp x y ∧ Wf x ∧ Wf y := by
  have h2 : Tryz.prog.cellsOf 76 = 2 := by kernel_rfl
  have h3 : Tryz.prog.cellsOf 2 = 1 := by kernel_rfl
  obtain ⟨m, h4⟩ : ∃ m, Tryz.prog.types.size = m + 1 := ⟨Tryz.prog.types.size - 1, by kernel_rfl⟩
  have hf := h
  unfold keyOf at hf
  simp only [Tryz.underlying76] at hf
  by_cases hc : (Tryz.prog.keyType 76 && key.formed Tryz.prog 76) = true
  case neg => rw [if_neg hc] at hf; cases hf
  rw [if_pos hc, h4] at hf
  have hform := (Bool.and_eq_true_iff.1 hc).2
  cases key with
  | agg cs =>
    simp [Value.formed, Tryz.underlying76, h2] at hform
    obtain ⟨c0, c1, rfl⟩ : ∃ c0 c1, cs = #[c0, c1] := by
      exact ⟨cs[0]'(by omega), cs[1]'(by omega), Array.ext (by simpa using hform) (fun i h0 h1 => by
        have : i = 0 ∨ i = 1 := by simp at h1; omega
        rcases this with rfl | rfl <;> rfl)⟩
    unfold Program.keyLits at hf
    simp only [Tryz.underlying76, Value.cells] at hf
    rw [if_pos (by rw [h2]; exact ⟨rfl, by kernel_rfl⟩)] at hf
    simp [h3, List.mapM_cons, Option.bind_eq_some_iff] at hf
    obtain ⟨l0, g0, _, ⟨l1, g1, rfl⟩, rfl⟩ := hf
    obtain ⟨x, rfl, rfl, hx⟩ := lits_int g0
    obtain ⟨y, rfl, rfl, hy⟩ := lits_int g1
    exact ⟨x, y, rfl, by simp [kp], hx, hy⟩
  | _ => simp [Value.formed, Tryz.underlying76] at hform
/-- Block b is a map that has m, block r an iterator over it; 'left' tells which keys are still to come, cnt how many at most. -/
def PR (w : World) (b r n : Nat) (m : Int → Int → Option Int) (left : Int → Int → Bool) (cnt : Nat) : Prop :=
  ∃ (D : DataW Unit) (L : Lit → Bool), w.ranges Tryz.prog 76 (plainElem Tryz.prog 2) b r n D L cnt ∧ (∀ x y, Wf x → Wf y → Maps.has D (kp x y) = (m x y).isSome ∧ D.atKey (kp x y) (.lit (.int .i64 0)) = .lit (.int .i64 ((m x y).getD 0))) ∧ ∀ x y, Wf x → Wf y → L (kp x y) = left x y
theorem PR.pm {w : World} {b r n cnt : Nat} {m : Int → Int → Option Int} {left : Int → Int → Bool} (h : PR w b r n m left cnt) : PM w b n m := by
  obtain ⟨D, L, h1, h2, _⟩ := h
  exact ⟨D, h1.owns, h2⟩
theorem PR.ne {w : World} {b r n cnt : Nat} {m : Int → Int → Option Int} {left : Int → Int → Bool} (h : PR w b r n m left cnt) : r ≠ b := by
  obtain ⟨D, L, h1, _⟩ := h
  exact h1.ne
theorem PR.lt {w : World} {b r n cnt : Nat} {m : Int → Int → Option Int} {left : Int → Int → Bool} (h : PR w b r n m left cnt) : r < w.heap.size := by
  obtain ⟨D, L, h1, _⟩ := h
  exact h1.lt
theorem PR.left_eq {w : World} {b r n cnt : Nat} {m : Int → Int → Option Int} {left : Int → Int → Bool} (h : PR w b r n m left cnt) : w.rangeLeft b r = cnt := by
  obtain ⟨D, L, h1, _⟩ := h
  exact h1.left_eq
theorem PR.kept {w w' : World} {b r n cnt : Nat} {m : Int → Int → Option Int} {left : Int → Int → Bool} {row : Option Nat} (h : PR w b r n m left cnt) (hg : w.grownBy w' row) (hb : some b ≠ row) (hr : some r ≠ row) : PR w' b r n m left cnt := by
  obtain ⟨D, L, h1, r1⟩ := h
  exact ⟨D, L, h1.kept hg hb hr, r1⟩
theorem PR.later {w w' : World} {b r n cnt : Nat} {m : Int → Int → Option Int} {left : Int → Int → Bool} (h : PR w b r n m left cnt) (hb : Below w.heap.size w w') : PR w' b r n m left cnt :=
  h.kept (row := none) ⟨hb.os, hb.tape, hb.output, hb.size, fun i hi _ => hb.block i hi⟩ (by simp) (by simp)
theorem PR.congr {w : World} {b r n cnt : Nat} {m : Int → Int → Option Int} {left left' : Int → Int → Bool} (h : PR w b r n m left cnt) (e : ∀ x y, left x y = left' x y) : PR w b r n m left' cnt := by
  obtain ⟨D, L, h1, r1, r2⟩ := h
  exact ⟨D, L, h1, r1, fun x y hx hy => by rw [r2 x y hx hy, e]⟩
/-- 'left' without one key. -/
def strike (left : Int → Int → Bool) (x y : Int) : Int → Int → Bool := fun p q => left p q && !decide (p = x ∧ q = y)
def delM (m : Int → Int → Option Int) (x y : Int) : Int → Int → Option Int := fun p q => if p = x ∧ q = y then none else m p q
theorem wpList_prange (w : World) {ops : Array Oper} {rest : List Oper} {o : Oper} {a : Act} {Q : Exit → Act → World → Prop} (hg : o.guard = none) (mo : Operand) (hop : o.op = Op.range 68 mo)
    (b n : Nat) (m : Int → Int → Option Int) (hm : a.eval mo = .map (some b)) (h : PM w b n m)
    (hK : ∀ w' cnt, cnt ≤ n → PR w' b w.heap.size n m (fun x y => (m x y).isSome) cnt → Below w.heap.size w w' → w'.heap.size = w.heap.size + 1 → wpList Tryz.prog ops Q rest (a.put o.dst (.pointer (some ⟨w.heap.size, 0, none⟩))) w') :
    wpList Tryz.prog ops Q (o :: rest) a w := by
  obtain ⟨D, h1, h2⟩ := h
  refine wpList_range_own w hg mo 68 hop _ _ placeKeyed Tryz.underlying68 _ b n D hm h1 ?_
  intro w' hr hgw hs
  refine hK w' (Maps.size D) h1.size_le ⟨D, Maps.has D, hr, h2, fun x y hx hy => (h2 x y hx hy).1⟩ ?_ hs
  exact ⟨hgw.os, hgw.tape, hgw.output, hgw.size, fun i hi => hgw.block i hi (by simp)⟩
theorem wpList_pnext (w : World) {ops : Array Oper} {rest : List Oper} {o : Oper} {a : Act} {Q : Exit → Act → World → Prop} (hg : o.guard = none) (it : Operand) (hop : o.op = Op.next it false)
    (b r n : Nat) (m : Int → Int → Option Int) (left : Int → Int → Bool) (cnt : Nat) (hit : a.eval it = .pointer (some ⟨r, 0, none⟩)) (h : PR w b r n m left cnt) (hle : ∀ x y, Wf x → Wf y → left x y = true → (m x y).isSome = true)
    (hDone : (∀ x y, Wf x → Wf y → left x y = false) → wpList Tryz.prog ops Q rest (a.put o.dst (.tuple #[.bool false])) w)
    (hMore : ∀ (x y c : Int) (w' : World) (cnt' : Nat), Wf x → Wf y → Wf c → left x y = true → m x y = some c → PR w' b r n m (strike left x y) cnt' → cnt' < cnt → w.grownBy w' (some r) → w'.heap.size = w.heap.size →
      (Instr.entry (.pointer (some ⟨r, 0, none⟩))).run Tryz.prog w' = .ok (.tuple #[.agg #[.int .i64 x, .int .i64 y], .int .i64 c]) w' → wpList Tryz.prog ops Q rest (a.put o.dst (.tuple #[.bool true, .agg #[.int .i64 x, .int .i64 y], .int .i64 c])) w') :
    wpList Tryz.prog ops Q (o :: rest) a w := by
  obtain ⟨D, L, h1, h2, h3⟩ := h
  refine wpList_next_ranges (α := Int × Int) (β := Int) w hg it hop _ placeKeyed _ (fun p => .agg #[.int .i64 p.1, .int .i64 p.2]) (Value.int .i64) (fun key kl hk => by obtain ⟨x, y, e, _⟩ := keyOf_place_inv hk; exact ⟨(x, y), e⟩) (fun v y hv => by obtain ⟨c, e, _⟩ := plainElem_int_inv Tryz.underlying2 hv; exact ⟨c, e⟩) b r n D L cnt hit h1 ?_ ?_
  · intro _ hl
    exact hDone fun x y hx hy => by rw [← h3 x y hx hy]; exact hl _
  · rintro ⟨x, y⟩ c kl z w' cnt' hkey hl hv hat hr hlt hgw hs hen
    obtain ⟨x', y', e, rfl, hx, hy⟩ := keyOf_place_inv hkey
    simp at e
    obtain ⟨rfl, rfl⟩ := e
    obtain ⟨c', e, rfl, hc⟩ := plainElem_int_inv Tryz.underlying2 hv
    simp at e
    subst e
    have hl' : left x y = true := by rw [← h3 x y hx hy]; exact hl
    have hsome := hle x y hx hy hl'
    have hat' := (h2 x y hx hy).2
    rw [hat] at hat'
    simp at hat'
    have hm : m x y = some c := by
      obtain ⟨u, hu⟩ := Option.isSome_iff_exists.1 hsome
      rw [hu] at hat' ⊢
      simp at hat'
      rw [hat']
    refine hMore x y c w' cnt' hx hy hc hl' hm ⟨D, _, hr, h2, fun p q hp hq => ?_⟩ hlt hgw hs hen
    rw [h3 p q hp hq, kp_same hp hq hx hy]
    rfl
theorem PM.congrW {w : World} {b n : Nat} {m m' : Int → Int → Option Int} (h : PM w b n m) (e : ∀ x y, Wf x → Wf y → m x y = m' x y) : PM w b n m' := by
  obtain ⟨D, h1, r⟩ := h
  exact ⟨D, h1, fun x y hx hy => by rw [← e x y hx hy]; exact r x y hx hy⟩
theorem PR.congrM {w : World} {b r n cnt : Nat} {m m' : Int → Int → Option Int} {left left' : Int → Int → Bool} (h : PR w b r n m left cnt) (e : ∀ x y, m x y = m' x y) (e' : ∀ x y, left x y = left' x y) : PR w b r n m' left' cnt := by
  obtain ⟨D, L, h1, r1, r2⟩ := h
  exact ⟨D, L, h1, fun x y hx hy => by rw [← e]; exact r1 x y hx hy, fun x y hx hy => by rw [r2 x y hx hy, e']⟩
/-- 'delete(m, k)' at a step of a region that draws its order. -/
theorem step_pdelete {ops : Array Oper} {o : Oper} {a : Act} {K : Act → World → Prop} {Q : Exit → Act → World → Prop} {E : Prop} (w : World) (hg : o.guard = none) (mo xo : Operand) (hop : o.op = Op.call { callee := Callee.builtin Builtin.delete, args := #[mo, xo], argTypes := #[68, 76] })
    (b r n : Nat) (m : Int → Int → Option Int) (left : Int → Int → Bool) (cnt : Nat) (hm : a.eval mo = .map (some b)) (h : PR w b r n m left cnt) (x y : Int) (hx : a.eval xo = .agg #[.int .i64 x, .int .i64 y]) (hwx : Wf x) (hwy : Wf y)
    (hK : ∀ w' cnt', PR w' b r n (delM m x y) (strike left x y) cnt' → cnt' ≤ cnt → w.grownBy w' (some b) → K (a.put o.dst (.tuple #[])) w') :
    if Region.wanted o (yielded ops a.tmps) = true then Oper.wp Tryz.prog o a w K Q else E := by
  have hw : Region.wanted o (yielded ops a.tmps) = true := by simp [Region.wanted, hg]
  rw [if_pos hw]
  obtain ⟨D, L, h1, h2, h3⟩ := h
  obtain ⟨w', cnt', hrun, r1, r2, r3⟩ := h1.drop placeKeyed Tryz.underlying68 (keyOf_place hwx hwy) o.type
  unfold Oper.wp
  simp [execOp, hop, resolve, invoke, builtin, hm, hx, hrun, Result.andThen]
  refine hK w' cnt' ⟨_, _, r1, fun p q hp hq => ?_, fun p q hp hq => ?_⟩ r2 r3.grown
  · unfold delM
    by_cases e : p = x ∧ q = y
    · obtain ⟨rfl, rfl⟩ := e
      rw [if_pos ⟨rfl, rfl⟩]
      exact ⟨has_del_same, atKey_del_same _⟩
    · rw [if_neg e, has_del_other (fun q => e (kp_inj hp hq hwx hwy q)), atKey_del_other (fun q => e (kp_inj hp hq hwx hwy q))]
      exact h2 p q hp hq
  · rw [h3 p q hp hq, kp_same hp hq hwx hwy]
    rfl
end

section
open Go.RowKit Go.Sort Go.Shelf Go.Lib
theorem sortCell_any (B n : Nat) (F : Nat → Int) (v : Value) (w : World) (h : Row w B 3 n F v) (hf : Free w (n * 3) v) (hn : n ≤ 1048576) :
    Calls Tryz.prog 40 #[v, .func (.func 41) #[] #[]] w fun e w' => e = .returned (.tuple #[]) ∧ ∃ d : Array (List Int), d.size = n ∧ (d.toList.Perm (rowD 3 n F).toList ∧ SortedIn (ltOf (cf2 (fun x => x.getD 0 0) (fun x => x.getD 1 0))) 0 n d) ∧ (Row w' B 3 n (rowF 3 d) v ∧ Free w' (n * 3) v) ∧ w.grownBy w' (turn n v) := by
  obtain ⟨ao, cp, rfl⟩ := h.form
  rcases Nat.eq_zero_or_pos n with e | e
  · subst e
    have hcon := AnyF.slices_SortFunc_none Tryz.sortCell ao cp (.func (.func 41) #[] #[]) w
    change Calls Tryz.prog 40 _ _ _ at hcon
    refine hcon.mono ?_
    rintro e w' ⟨rfl, rfl⟩
    refine ⟨rfl, #[], rfl, ⟨by simp [rowD], fun i j _ hij hj => by omega⟩, ⟨⟨_, _, rfl, fun q => absurd q (Nat.lt_irrefl 0)⟩, by rw [Nat.zero_mul]; exact Free.of0 _ _⟩, ⟨rfl, rfl, rfl, Nat.le_refl _, fun _ _ _ => rfl⟩⟩
  · obtain ⟨g, o, rfl, hB, hg, _⟩ := h.at e
    refine (sortCell_is B n g o cp F w h hf hB hg hn).mono ?_
    rintro e' w' ⟨rfl, d, h1, h2, h3, h4⟩
    refine ⟨rfl, d, h1, h2, h3, ?_⟩
    have : turn n (.slice (some ⟨g, o, none⟩) n cp) = some g := by unfold turn; rw [if_neg (by omega)]; rfl
    rw [this]
    exact h4
/-- The entries of a map that have come: all that are not left, each once. -/
def Col3 (m : Int → Int → Option Int) (left : Int → Int → Bool) (L : List (List Int)) : Prop :=
  (∀ t ∈ L, ∃ x y v, t = [x, y, v] ∧ Wf x ∧ Wf y ∧ m x y = some v ∧ left x y = false) ∧ (∀ x y v, Wf x → Wf y → m x y = some v → left x y = false → [x, y, v] ∈ L) ∧ L.Nodup ∧ ∀ x y, left x y = true → (m x y).isSome = true
theorem Col3.start (m : Int → Int → Option Int) : Col3 m (fun x y => (m x y).isSome) [] := by
  refine ⟨fun t ht => absurd ht (by simp), fun x y v _ _ h h' => ?_, by simp, fun _ _ h => h⟩
  have h2 : (m x y).isSome = false := h'
  rw [h] at h2
  simp at h2
theorem Col3.len {m : Int → Int → Option Int} {left : Int → Int → Bool} {L : List (List Int)} (h : Col3 m left L) : ∀ t ∈ L, t.length = 3 := fun t ht => by
  obtain ⟨x, y, v, rfl, _⟩ := h.1 t ht
  rfl
theorem Col3.step {m : Int → Int → Option Int} {left : Int → Int → Bool} {L : List (List Int)} (h : Col3 m left L) {x y c : Int} (hx : Wf x) (hy : Wf y) (hl : left x y = true) (hm : m x y = some c) : Col3 m (strike left x y) (L ++ [[x, y, c]]) := by
  refine ⟨fun t ht => ?_, fun p q v hp hq h1 h2 => ?_, ?_, fun p q h1 => ?_⟩
  · rcases List.mem_append.1 ht with ht | ht
    · obtain ⟨p, q, v, rfl, h1, h2, h3, h4⟩ := h.1 t ht
      exact ⟨p, q, v, rfl, h1, h2, h3, by unfold strike; rw [h4]; rfl⟩
    · simp at ht
      subst ht
      exact ⟨x, y, c, rfl, hx, hy, hm, by simp [strike]⟩
  · by_cases e : p = x ∧ q = y
    · obtain ⟨rfl, rfl⟩ := e
      rw [hm] at h1
      simp at h1
      subst h1
      simp
    · refine List.mem_append.2 (Or.inl (h.2.1 p q v hp hq h1 ?_))
      unfold strike at h2
      rw [decide_eq_false e] at h2
      simpa using h2
  · refine List.nodup_append.2 ⟨h.2.2.1, by simp, ?_⟩
    intro a ha b hb e
    simp at hb
    subst hb
    subst e
    obtain ⟨p, q, v, e, _, _, _, h4⟩ := h.1 _ ha
    simp at e
    obtain ⟨rfl, rfl, _⟩ := e
    rw [hl] at h4
    simp at h4
  · unfold strike at h1
    exact h.2.2.2 p q (by simp at h1; exact h1.1)
/-- A row of cells that rises and has just what a map has. -/
structure MapRow (m : Int → Int → Option Int) (nc : Nat) (c : Nat → Int) : Prop where
  rise : ∀ j, j < nc → ∀ i, i < j → pairLt (c (i * 3)) (c (i * 3 + 1)) (c (j * 3)) (c (j * 3 + 1))
  wf : ∀ i, i < nc → Wf (c (i * 3)) ∧ Wf (c (i * 3 + 1))
  has : ∀ i, i < nc → m (c (i * 3)) (c (i * 3 + 1)) = some (c (i * 3 + 2))
  all : ∀ x y v, Wf x → Wf y → m x y = some v → ∃ i, i < nc ∧ c (i * 3) = x ∧ c (i * 3 + 1) = y ∧ c (i * 3 + 2) = v
theorem rowD_list (m n : Nat) (F : Nat → Int) : (rowD m n F).toList = (List.range n).map (struD F m) := by
  unfold rowD struD
  simp
theorem struD_three (c : Nat → Int) (i : Nat) : struD c 3 i = [c (i * 3), c (i * 3 + 1), c (i * 3 + 2)] := rfl
theorem MapRow.up {m : Int → Int → Option Int} {nc : Nat} {c : Nat → Int} (h : MapRow m nc c) : ((rowD 3 nc c).toList).Pairwise (Lt2 (fun x => x.getD 0 0) (fun x => x.getD 1 0)) := by
  rw [rowD_list, List.pairwise_map, List.pairwise_iff_getElem]
  intro i j hi hj hij
  simp at hi hj
  simp only [List.getElem_range]
  exact h.rise j hj i hij
theorem Lt2.nodup {k s : List Int → Int} {l : List (List Int)} (h : l.Pairwise (Lt2 k s)) : l.Nodup := h.imp (fun {a b} h e => h.ne (by subst e; exact ⟨rfl, rfl⟩))
theorem MapRow.perm {m : Int → Int → Option Int} {nc : Nat} {c : Nat → Int} (h : MapRow m nc c) {left : Int → Int → Bool} {L : List (List Int)} (hL : Col3 m left L) (hd : ∀ x y, Wf x → Wf y → left x y = false) : L.Perm (rowD 3 nc c).toList := by
  refine (List.perm_ext_iff_of_nodup hL.2.2.1 (Lt2.nodup h.up)).2 (fun t => ?_)
  rw [rowD_list, List.mem_map]
  constructor
  · intro ht
    obtain ⟨x, y, v, rfl, hx, hy, hm, _⟩ := hL.1 t ht
    obtain ⟨i, hi, rfl, rfl, rfl⟩ := h.all x y v hx hy hm
    exact ⟨i, List.mem_range.2 hi, struD_three c i⟩
  · rintro ⟨i, hi, rfl⟩
    have hi' := List.mem_range.1 hi
    rw [struD_three]
    exact hL.2.1 _ _ _ (h.wf i hi').1 (h.wf i hi').2 (h.has i hi') (hd _ _ (h.wf i hi').1 (h.wf i hi').2)
theorem rowD_flat {m : Nat} (hm : 0 < m) (L : List (List Int)) (hL : ∀ t ∈ L, t.length = m) : (rowD m L.length (fun p => L.flatten.getD p 0)).toList = L := by
  rw [rowD_list]
  apply List.ext_getElem (by simp)
  intro i h1 h2
  have hi : i < L.length := h2
  simp only [List.getElem_map, List.getElem_range]
  apply List.ext_getElem
  · rw [struD_len, hL _ (List.getElem_mem _)]
  · intro q h3 h4
    have hq : q < m := by rw [struD_len] at h3; exact h3
    have hlt : i * m + q < L.length * m := by
      calc i * m + q < i * m + m := by omega
        _ = (i + 1) * m := by rw [Nat.succ_mul]
        _ ≤ L.length * m := Nat.mul_le_mul_right m hi
    have e := flat_get (m := m) L (i * m + q) hL hlt
    have d1 : (i * m + q) / m = i := by rw [Nat.mul_comm, Nat.mul_add_div hm, Nat.div_eq_of_lt hq, Nat.add_zero]
    have d2 : (i * m + q) % m = q := by rw [Nat.mul_comm, Nat.mul_add_mod, Nat.mod_eq_of_lt hq]
    rw [d1, d2] at e
    have s1 : (struD (fun p => L.flatten.getD p 0) m i)[q] = L.flatten.getD (i * m + q) 0 := by simp [struD]
    rw [s1, e]
    simp [hi, hL _ (List.getElem_mem hi), hq]
/-- What the sort of a map's entries leaves. -/
theorem MapRow.sorted {m : Int → Int → Option Int} {nc : Nat} {c : Nat → Int} (h : MapRow m nc c) {left : Int → Int → Bool} {L : List (List Int)} (hL : Col3 m left L) (hd : ∀ x y, Wf x → Wf y → left x y = false) : L.length = nc ∧ ∀ d : Array (List Int), d.size = L.length → d.toList.Perm (rowD 3 L.length (fun p => L.flatten.getD p 0)).toList → SortedIn (ltOf (cf2 (fun x => x.getD 0 0) (fun x => x.getD 1 0))) 0 L.length d → ∀ t, t < nc * 3 → rowF 3 d t = c t := by
  have hp := h.perm hL hd
  have hlen : L.length = nc := by rw [hp.length_eq, Array.length_toList, rowD_size]
  refine ⟨hlen, fun d h1 h2 h3 t ht => ?_⟩
  rw [rowD_flat (by omega) L hL.len] at h2
  have e := sorted_is h1 h3 (h2.trans hp) h.up
  have e2 : d = rowD 3 nc c := by
    apply Array.ext'
    exact e
  rw [e2]
  exact rowF_rowD 3 nc c t ht
/-- A list of structs whose keys rise, which has just what a map has, is a map's row. -/
theorem mapRow_list {m : Int → Int → Option Int} {L : List (List Int)} (hl : ∀ t ∈ L, t.length = 3) (hu : L.Pairwise (Lt2 (fun x => x.getD 0 0) (fun x => x.getD 1 0))) (hw : ∀ x y v, [x, y, v] ∈ L → (Wf x ∧ Wf y) ∧ m x y = some v) (ha : ∀ x y v, Wf x → Wf y → m x y = some v → [x, y, v] ∈ L) : MapRow m L.length (fun p => L.flatten.getD p 0) := by
  have three : ∀ t ∈ L, t = [t.getD 0 0, t.getD 1 0, t.getD 2 0] := fun t ht => by
    have h3 := hl t ht
    match t, h3 with
    | [a, b, c], _ => rfl
  have get : ∀ i (hi : i < L.length) q, q < 3 → L.flatten.getD (i * 3 + q) 0 = (L[i]'hi).getD q 0 := fun i hi q hq => by
    rw [flat_get (m := 3) L (i * 3 + q) hl (by omega)]
    have d1 : (i * 3 + q) / 3 = i := by omega
    have d2 : (i * 3 + q) % 3 = q := by omega
    rw [d1, d2]
    simp [hi]
  have mem : ∀ i (hi : i < L.length), [L.flatten.getD (i * 3) 0, L.flatten.getD (i * 3 + 1) 0, L.flatten.getD (i * 3 + 2) 0] ∈ L := fun i hi => by
    have g0 := get i hi 0 (by omega)
    rw [Nat.add_zero] at g0
    rw [g0, get i hi 1 (by omega), get i hi 2 (by omega), ← three _ (List.getElem_mem hi)]
    exact List.getElem_mem hi
  refine ⟨fun j hj i hij => ?_, fun i hi => (hw _ _ _ (mem i hi)).1, fun i hi => (hw _ _ _ (mem i hi)).2, fun x y v hx hy hm => ?_⟩
  · have h := (List.pairwise_iff_getElem.1 hu) i j (by omega) hj hij
    have g0 := get i (by omega) 0 (by omega)
    have g1 := get j hj 0 (by omega)
    rw [Nat.add_zero] at g0 g1
    show pairLt (L.flatten.getD (i * 3) 0) (L.flatten.getD (i * 3 + 1) 0) (L.flatten.getD (j * 3) 0) (L.flatten.getD (j * 3 + 1) 0)
    rw [g0, g1, get i (by omega) 1 (by omega), get j hj 1 (by omega)]
    exact h
  · obtain ⟨i, hi, e⟩ := List.mem_iff_getElem.1 (ha x y v hx hy hm)
    have g0 := get i hi 0 (by omega)
    rw [Nat.add_zero] at g0
    refine ⟨i, hi, ?_, ?_, ?_⟩
    · show L.flatten.getD (i * 3) 0 = x
      rw [g0, e]; rfl
    · show L.flatten.getD (i * 3 + 1) 0 = y
      rw [get i hi 1 (by omega), e]; rfl
    · show L.flatten.getD (i * 3 + 2) 0 = v
      rw [get i hi 2 (by omega), e]; rfl
theorem puts_some {p q v : Nat → Int} {x y u : Int} : ∀ {n : Nat}, puts p q v n x y = some u → ∃ i, i < n ∧ p i = x ∧ q i = y ∧ v i = u
  | 0, h => by simp [puts] at h
  | n + 1, h => by
    unfold puts putM at h
    by_cases e : x = p n ∧ y = q n
    · rw [if_pos e] at h
      simp at h
      exact ⟨n, by omega, e.1.symm, e.2.symm, h⟩
    · rw [if_neg e] at h
      obtain ⟨i, hi, r⟩ := puts_some h
      exact ⟨i, by omega, r⟩
theorem cellM_some {S : Sto} {x y u : Int} (h : cellM S S.nc x y = some u) : ∃ i, i < S.nc ∧ S.c (i * 3) = x ∧ S.c (i * 3 + 1) = y ∧ S.c (i * 3 + 2) = u := puts_some h
end
end Go.Proofs.YtgedodcojalidaaGreat

namespace Go.Proofs.YtgedodcojalidaaGreat
open Go.RowKit Go.Maps Go.Sort Go.Shelf Go.Lib

theorem run_copy (t ty e : TypeId) (i : TypeInfo) (z : Value) (m bytes : Nat) (ht : Tryz.prog.underlying t = some (.slice e)) (hi : Tryz.prog.info? e = some i) (hz : i.zero = some z) (hsize : i.size = m) (hby : i.bytes = bytes) (hzs : z.cells.size = m) (hm : 0 < m) (hb5 : bytes ≤ 1000)
    (w : World) (B n : Nat) (F : Nat → Int) (v : Value) (h : Own w B e m n F v) (hn : n ≤ 1048576) : ∃ v' w', (Builtin.append_ #[t, t] ty #[.slice none 0 0, v]).run Tryz.prog w = .ok v' w' ∧ Own w' w.heap.size e m n F v' ∧ Below w.heap.size w w' := by
  have hr := h.row.1
  rcases h.2 with ⟨rfl, rfl⟩ | ⟨g, cap, cur, rfl, hg, hw, _⟩
  · exact ⟨_, _, run_append_owned_none (P := Tryz.prog) w w.heap.size t ty e i m ht hi _ 0 [] ⟨by simp, Or.inl ⟨rfl, rfl⟩⟩, Own.nil _ _ _ _ _, Below.refl _ _⟩
  · have hbb : n * bytes ≤ 1048576 * 1000 := Nat.mul_le_mul hn hb5
    obtain ⟨v', w', h1, h2, h3, _⟩ := run_append_own (P := Tryz.prog) w w.heap.size t ty e i z m bytes ht hi hz hsize hby hzs hm (.slice none 0 0) 0 [] ⟨by simp, Or.inl ⟨rfl, rfl⟩⟩ ⟨g, 0, none⟩ n cap (vals F (n * m)) (vals_length _ _) (row_cells hr) (vals_one _ _) (by unfold maxLen; omega) (by rw [Nat.zero_add]; omega) (Nat.le_refl _)
    refine ⟨v', w', h1, ?_, ⟨h3.os, h3.tape, h3.output, h3.size, fun i hi => h3.block i hi (by simp [Value.ownBlock])⟩⟩
    simpa [Own] using h2
/-- 'append([]T(nil), row...)' at a step of a region that draws its order. -/
theorem step_copy {ops : Array Oper} {o : Oper} {a : Act} {K : Act → World → Prop} {Q : Exit → Act → World → Prop} {E : Prop} (hgd : o.guard = none) (x : Operand) (t : TypeId) (ho : o.op = .call { callee := .builtin .append, args := #[.const (.slice none 0 0), x], argTypes := #[t, t] })
    (e : TypeId) (i : TypeInfo) (z : Value) (m bytes : Nat) (ht : Tryz.prog.underlying t = some (.slice e)) (hi : Tryz.prog.info? e = some i) (hz : i.zero = some z) (hsize : i.size = m) (hby : i.bytes = bytes) (hzs : z.cells.size = m) (hm : 0 < m) (hb5 : bytes ≤ 1000)
    (w : World) (B n : Nat) (F : Nat → Int) (v : Value) (hx : a.eval x = v) (h : Own w B e m n F v) (hn : n ≤ 1048576) (hK : ∀ v' w', Own w' w.heap.size e m n F v' → Below w.heap.size w w' → K (a.put o.dst v') w') :
    if Region.wanted o (yielded ops a.tmps) = true then Oper.wp Tryz.prog o a w K Q else E := by
  have hw : Region.wanted o (yielded ops a.tmps) = true := by simp [Region.wanted, hgd]
  rw [if_pos hw]
  obtain ⟨v', w', hr, h2, h3⟩ := run_copy t o.type e i z m bytes ht hi hz hsize hby hzs hm hb5 w B n F v h hn
  have hc : a.eval (.const (.slice none 0 0)) = .slice none 0 0 := rfl
  unfold Oper.wp execOp
  simp only [ho, resolve, invoke, builtin, Sem.run_bind, Sem.run_pure, Result.andThen_ok, List.map_toArray, List.map_cons, List.map_nil, hc, hx, hr]
  exact hK v' w' h2 h3
theorem grown_set (w : World) (a : Addr) (u : Value) : w.grownBy (w.setCell a u) (some a.block) := ⟨rfl, rfl, rfl, by simp, fun i _ hne => Below.heap_setCell w a u i (fun e => hne (by rw [e]))⟩
/-- What store stands on behind its copies: the columns; its answer (the first new block); its own store (block b3), of which two rows are done. -/
structure Leaf (w : World) (b oo N : Nat) (m : Int → Int → Option Int) (nl : Nat) (l : Nat → Int) (nw : Nat) (k : Nat → Int) (g : Nat) (u1 u2 : Value) (b3 : Nat) (q0 q1 q2 r1 r2 : Value) (x : World) : Prop where
  cols : Blk3O x b oo (.map (some g)) u1 u2
  pm : PM x g N m
  gl : g < w.heap.size
  res : Blk3 x w.heap.size (.slice none 0 0) (.slice none 0 0) (.slice none 0 0)
  own : Blk3 x b3 q0 q1 q2
  lo : w.heap.size < b3
  bl : b < w.heap.size
  s1 : Own x (w.heap.size + 1) 62 5 nl l r1
  s2 : Own x (w.heap.size + 1) 36 4 nw k r2
  a1 : r1.ownBlock ≠ some b3
  a2 : r2.ownBlock ≠ some b3
  a12 : ∀ q, r1.ownBlock = some q → r2.ownBlock ≠ some q
  below : Below w.heap.size w x
theorem Leaf.later {w : World} {b oo N : Nat} {m : Int → Int → Option Int} {nl : Nat} {l : Nat → Int} {nw : Nat} {k : Nat → Int} {g : Nat} {u1 u2 : Value} {b3 : Nat} {q0 q1 q2 r1 r2 : Value} {x x' : World} (h : Leaf w b oo N m nl l nw k g u1 u2 b3 q0 q1 q2 r1 r2 x) (hb : Below x.heap.size x x') : Leaf w b oo N m nl l nw k g u1 u2 b3 q0 q1 q2 r1 r2 x' :=
  ⟨h.cols.later hb, h.pm.later hb, h.gl, h.res.later hb, h.own.later hb, h.lo, h.bl, h.s1.later hb, h.s2.later hb, h.a1, h.a2, h.a12, h.below.trans (hb.mono h.below.size)⟩
theorem Own.block {w : World} {B : Nat} {e : TypeId} {m n : Nat} {F : Nat → Int} {v : Value} (h : Own w B e m n F v) : ∀ k, v.ownBlock = some k → B ≤ k ∧ k < w.heap.size := own_in h
theorem Own.kept {w w' : World} {B : Nat} {e : TypeId} {m n : Nat} {F : Nat → Int} {v : Value} (h : Own w B e m n F v) (hb : ∀ k, v.ownBlock = some k → w'.heap[k]? = w.heap[k]?) : Own w' B e m n F v := by
  refine ⟨h.1, ?_⟩
  rcases h.2 with q | ⟨g, cap, cur, rfl, hg, hw, r⟩
  · exact Or.inl q
  · exact Or.inr ⟨g, cap, cur, rfl, hg, (hb g rfl).trans hw, r⟩
theorem Leaf.put {w : World} {b oo N : Nat} {m : Int → Int → Option Int} {nl : Nat} {l : Nat → Int} {nw : Nat} {k : Nat → Int} {g : Nat} {u1 u2 : Value} {b3 : Nat} {q0 q1 q2 r1 r2 : Value} {x : World} (h : Leaf w b oo N m nl l nw k g u1 u2 b3 q0 q1 q2 r1 r2 x) (a0 a1 a2 : Value) :
    Leaf w b oo N m nl l nw k g u1 u2 b3 a0 a1 a2 r1 r2 (((x.setCell ⟨b3, 0, none⟩ a0).setCell ⟨b3, 1, none⟩ a1).setCell ⟨b3, 2, none⟩ a2) := by
  have hb : ∀ i, i ≠ b3 → (((x.setCell ⟨b3, 0, none⟩ a0).setCell ⟨b3, 1, none⟩ a1).setCell ⟨b3, 2, none⟩ a2).heap[i]? = x.heap[i]? := fun i hi => (Below.heap_setCell _ _ _ i hi).trans ((Below.heap_setCell _ _ _ i hi).trans (Below.heap_setCell _ _ _ i hi))
  have h1 := h.lo
  have h2 := h.gl
  have h3 := h.bl
  exact ⟨h.cols.kept (hb _ (by omega)), h.pm.kept (hb _ (by omega)), h.gl, h.res.kept (hb _ (by omega)), ((h.own.set0 a0).set1 a1).set2 a2, h.lo, h.bl, h.s1.kept (fun q hq => hb q (fun e => h.a1 (by rw [hq, e]))), h.s2.kept (fun q hq => hb q (fun e => h.a2 (by rw [hq, e]))), h.a1, h.a2, h.a12, ((h.below.setCell (by simp; omega) _).setCell (by simp; omega) _).setCell (by simp; omega) _⟩
/-- x is y but for block b3, block r and what lies from Z on. -/
def Sam (y x : World) (Z b3 r : Nat) : Prop := (x.os = y.os ∧ x.tape = y.tape ∧ x.output = y.output) ∧ Z ≤ x.heap.size ∧ ∀ i, i < Z → i ≠ b3 → i ≠ r → x.heap[i]? = y.heap[i]?
theorem Sam.step {y x x' : World} {Z b3 r : Nat} {row : Option Nat} (h : Sam y x Z b3 r) (hg : x.grownBy x' row) (hq : ∀ q, row = some q → q = b3 ∨ q = r ∨ Z ≤ q) : Sam y x' Z b3 r :=
  ⟨⟨hg.os.trans h.1.1, hg.tape.trans h.1.2.1, hg.output.trans h.1.2.2⟩, Nat.le_trans h.2.1 hg.size, fun i h1 h2 h3 => (hg.block i (Nat.lt_of_lt_of_le h1 h.2.1) (fun e => by have := hq i e.symm; omega)).trans (h.2.2 i h1 h2 h3)⟩
theorem Sam.later {y x x' : World} {Z b3 r : Nat} (h : Sam y x Z b3 r) (hb : Below x.heap.size x x') : Sam y x' Z b3 r :=
  ⟨⟨hb.os.trans h.1.1, hb.tape.trans h.1.2.1, hb.output.trans h.1.2.2⟩, Nat.le_trans h.2.1 hb.size, fun i h1 h2 h3 => (hb.block i (Nat.lt_of_lt_of_le h1 h.2.1)).trans (h.2.2 i h1 h2 h3)⟩
/-- What a round of store's loop stands on. -/
structure Rnd (w y : World) (g r N : Nat) (m : Int → Int → Option Int) (b3 : Nat) (r1 r2 : Value) (left : Int → Int → Bool) (cnt : Nat) (v : Value) (L : List (List Int)) (x : World) : Prop where
  pr : PR x g r N m left cnt
  sam : Sam y x (r + 1) b3 r
  own : Blk3 x b3 v r1 r2
  row : OwnM x (r + 1) 59 3 v L.length L.flatten
  col : Col3 m left L
  len : L.length + cnt ≤ N
theorem Rnd.later {w y x x' : World} {g r N : Nat} {m : Int → Int → Option Int} {b3 : Nat} {r1 r2 : Value} {left : Int → Int → Bool} {cnt : Nat} {v : Value} {L : List (List Int)} (h : Rnd w y g r N m b3 r1 r2 left cnt v L x) (hb : Below x.heap.size x x') : Rnd w y g r N m b3 r1 r2 left cnt v L x' :=
  ⟨h.pr.later hb, h.sam.later hb, h.own.later hb, h.row.later hb, h.col, h.len⟩
/-- The iterator goes on. -/
theorem Rnd.next {w y x x' : World} {g r N : Nat} {m : Int → Int → Option Int} {b3 : Nat} {r1 r2 : Value} {left : Int → Int → Bool} {cnt cnt' : Nat} {v : Value} {L : List (List Int)} (h : Rnd w y g r N m b3 r1 r2 left cnt v L x) (hb : b3 < r) {left' : Int → Int → Bool} (hp : PR x' g r N m left' cnt') (hg : x.grownBy x' (some r)) :
    (PR x' g r N m left' cnt' ∧ Sam y x' (r + 1) b3 r) ∧ Blk3 x' b3 v r1 r2 ∧ OwnM x' (r + 1) 59 3 v L.length L.flatten :=
  ⟨⟨hp, h.sam.step hg (fun q e => by simp at e; omega)⟩, h.own.kept (hg.block b3 h.own.lt (by simp; omega)), h.row.kept (fun i h1 h2 => hg.block i h2 (by simp; omega))⟩
/-- The cell is appended, and the row stored. -/
theorem Rnd.put {w y x x' : World} {g r N : Nat} {m : Int → Int → Option Int} {b3 : Nat} {r1 r2 : Value} {left : Int → Int → Bool} {cnt : Nat} {v v' : Value} {L : List (List Int)} {p q c : Int} (hg3 : g < b3) (hb3 : b3 < r)
    (hp : (PR x g r N m (strike left p q) cnt ∧ Sam y x (r + 1) b3 r) ∧ Blk3 x b3 v r1 r2 ∧ OwnM x (r + 1) 59 3 v L.length L.flatten) (hc : Col3 m left L) (hx : Wf p) (hy : Wf q) (hl : left p q = true) (hm : m p q = some c) (hn : L.length + 1 + cnt ≤ N)
    (ho : x'.ownsRow (r + 1) 59 3 v' (L.length + 1) (L.flatten.map (Value.int .i64) ++ [.int .i64 p, .int .i64 q, .int .i64 c])) (hg : x.grownBy x' v.ownBlock) :
    Rnd w y g r N m b3 r1 r2 (strike left p q) cnt v' (L ++ [[p, q, c]]) (x'.setCell ⟨b3, 0, none⟩ v') := by
  have hv : ∀ j, v.ownBlock = some j → r + 1 ≤ j := fun j hj => (hp.2.2.block j hj).1
  have k1 : some g ≠ v.ownBlock := fun e => by have := hv g e.symm; omega
  have k2 : some r ≠ v.ownBlock := fun e => by have := hv r e.symm; omega
  have k3 : some b3 ≠ v.ownBlock := fun e => by have := hv b3 e.symm; omega
  have ho' : OwnM x' (r + 1) 59 3 v' (L.length + 1) (L ++ [[p, q, c]]).flatten := by
    unfold OwnM
    rw [List.flatten_append, List.map_append]
    exact ho
  refine ⟨(hp.1.1.kept hg k1 k2).kept (grown_set _ _ _) (by simp; omega) (by simp; omega), (hp.1.2.step hg (fun j e => Or.inr (Or.inr (hv j e)))).step (grown_set _ _ _) (fun j e => by simp at e; omega), (hp.2.1.kept (hg.block b3 hp.2.1.lt k3)).set0 v', ?_, hc.step hx hy hl hm, by simp; omega⟩
  rw [List.length_append]
  exact ho'.far (by simp; omega) _
theorem flatten_len {m : Nat} : ∀ (L : List (List Int)), (∀ t ∈ L, t.length = m) → L.flatten.length = L.length * m
  | [], _ => by simp
  | x :: r, h => by
    rw [List.flatten_cons, List.length_append, h x List.mem_cons_self, flatten_len r (fun t ht => h t (List.mem_cons_of_mem _ ht)), List.length_cons, Nat.succ_mul, Nat.add_comm]
theorem apart_mk {w : World} {B0 B1 : Nat} {S : Sto} {u0 u1 u2 : Value} (r0 : Row w B0 3 S.nc S.c u0) (r1 : Row w B1 5 S.nl S.l u1) (h1 : ∀ i j, u0.ownBlock = some i → u1.ownBlock = some j → i ≠ j) (h2 : ∀ i j, u0.ownBlock = some i → u2.ownBlock = some j → i ≠ j) (h3 : ∀ i j, u1.ownBlock = some i → u2.ownBlock = some j → i ≠ j) : ApartD S u0 u1 u2 := by
  have own : ∀ {B m n : Nat} {F : Nat → Int} {u : Value}, Row w B m n F u → 0 < n → ∃ k, u.ownBlock = some k := fun hr hn => by
    obtain ⟨ao, cp, rfl, hr⟩ := hr
    obtain ⟨g, o, rfl, _⟩ := hr hn
    exact ⟨g, rfl⟩
  refine ⟨fun ha hb e => ?_, fun ha hb e => ?_, fun ha hb e => ?_⟩
  · obtain ⟨k, hk⟩ := own r0 ha
    exact h1 k k hk (e ▸ hk) rfl
  · obtain ⟨k, hk⟩ := own r0 ha
    exact h2 k k hk (e ▸ hk) rfl
  · obtain ⟨k, hk⟩ := own r1 ha
    exact h3 k k hk (e ▸ hk) rfl
/-- What the copies find: all of Leaf that was there ahead of them. -/
structure Pre (w : World) (b oo N : Nat) (m : Int → Int → Option Int) (g : Nat) (u1 u2 : Value) (x : World) : Prop where
  cols : Blk3O x b oo (.map (some g)) u1 u2
  pm : PM x g N m
  gl : g < w.heap.size
  res : Blk3 x w.heap.size (.slice none 0 0) (.slice none 0 0) (.slice none 0 0)
  bl : b < w.heap.size
  below : Below w.heap.size w x
theorem Pre.later {w : World} {b oo N : Nat} {m : Int → Int → Option Int} {g : Nat} {u1 u2 : Value} {x x' : World} (h : Pre w b oo N m g u1 u2 x) (hb : Below x.heap.size x x') : Pre w b oo N m g u1 u2 x' :=
  ⟨h.cols.later hb, h.pm.later hb, h.gl, h.res.later hb, h.bl, h.below.trans (hb.mono h.below.size)⟩
theorem Pre.leaf {w : World} {b oo N : Nat} {m : Int → Int → Option Int} {g : Nat} {u1 u2 : Value} {x : World} (h : Pre w b oo N m g u1 u2 x) {b3 : Nat} {q0 q1 q2 : Value} (ho : Blk3 x b3 q0 q1 q2) (hlo : w.heap.size < b3) {nl : Nat} {l : Nat → Int} {nw : Nat} {k : Nat → Int} {r1 r2 : Value} (h1 : Own x (w.heap.size + 1) 62 5 nl l r1) (h2 : Own x (w.heap.size + 1) 36 4 nw k r2)
    (a1 : ∀ j, r1.ownBlock = some j → j ≠ b3) (a2 : ∀ j, r2.ownBlock = some j → j ≠ b3) (a12 : ∀ i j, r1.ownBlock = some i → r2.ownBlock = some j → i ≠ j) : Leaf w b oo N m nl l nw k g u1 u2 b3 q0 q1 q2 r1 r2 x :=
  ⟨h.cols, h.pm, h.gl, h.res, ho, hlo, h.bl, h1, h2, fun e => a1 b3 e rfl, fun e => a2 b3 e rfl, fun q e e' => a12 q q e e' rfl, h.below⟩
theorem size_drew (w : World) (o : Obj) : (w.alloc o).drew.heap.size = w.heap.size + 1 := by simp
/-- What the copying region stands on: the columns' block. -/
def ColBox (w : World) (b oo : Nat) (v0 v1 v2 : Value) (x : World) : Prop := Blk3O x b oo v0 v1 v2 ∧ Below w.heap.size w x
theorem ColBox.later {w x x' : World} {b oo : Nat} {v0 v1 v2 : Value} (h : ColBox w b oo v0 v1 v2 x) (hb : Below x.heap.size x x') : ColBox w b oo v0 v1 v2 x' := ⟨h.1.later hb, h.2.trans (hb.mono h.2.size)⟩
set_option maxRecDepth 100000 in
set_option maxHeartbeats 16000000 in
theorem store_isO (B b oo N : Nat) (m : Int → Int → Option Int) (nl : Nat) (l : Nat → Int) (nw : Nat) (k : Nat → Int) (g : Nat) (u1 u2 : Value) (w : World) (h : ColsO w B b oo N m nl l nw k g u1 u2) (hl : nl ≤ 200) (hw : nw ≤ 200) (hN : N ≤ 400) (nc : Nat) (c : Nat → Int) (hM : MapRow m nc c) :
    Calls Tryz.prog 17 #[.pointer (some ⟨b, oo, none⟩)] w (NewSto w ⟨nc, c, nl, l, nw, k⟩) := by
  unfold NewSto
  obtain ⟨b1, d1, rfl⟩ := h.2.2.2.2.1.form
  obtain ⟨b2, d2, rfl⟩ := h.2.2.2.2.2.form
  have H1 : Hid (Own w B 62 5 nl l (.slice b1 nl d1)) := h.2.2.2.2.1
  have H2 : Hid (Own w B 36 4 nw k (.slice b2 nw d2)) := h.2.2.2.2.2
  have HM : Hid (MapRow m nc c) := hM
  obtain ⟨i1, hi1, hz01, hz11, hz21⟩ := info_parts infoz_Lock
  obtain ⟨i2, hi2, hz02, hz12, hz22⟩ := info_parts infoz_Write
  obtain ⟨i0, hi, hz0, hz1, hz2⟩ := info_parts info_Cell
  have h0 : ColBox w b oo (.map (some g)) (.slice b1 nl d1) (.slice b2 nw d2) (w.alloc (.cells #[.slice none 0 0, .slice none 0 0, .slice none 0 0] 28)).drew := ⟨h.2.2.1.alloc _, (below_alloc _ _).drew⟩
  have HP0 : Hid (Pre w b oo N m g (.slice b1 nl d1) (.slice b2 nw d2) (w.alloc (.cells #[.slice none 0 0, .slice none 0 0, .slice none 0 0] 28)).drew) := ⟨h.2.2.1.alloc _, h.2.2.2.1.later (w' := (w.alloc (.cells #[.slice none 0 0, .slice none 0 0, .slice none 0 0] 28)).drew) (below_alloc _ _).drew, h.2.2.2.1.lt, Blk3.new w _ _ _ _, h.2.2.1.lt, (below_alloc _ _).drew⟩
  have HPB : Hid (Pre w b oo N m g (.slice b1 nl d1) (.slice b2 nw d2) ((w.alloc (.cells #[.slice none 0 0, .slice none 0 0, .slice none 0 0] 28)).alloc (.cells #[.slice none 0 0, .slice none 0 0, .slice none 0 0] 28)).drew) := ⟨(h.2.2.1.alloc _).alloc _, h.2.2.2.1.later (w' := ((w.alloc (.cells #[.slice none 0 0, .slice none 0 0, .slice none 0 0] 28)).alloc (.cells #[.slice none 0 0, .slice none 0 0, .slice none 0 0] 28)).drew) ((below_alloc _ _).alloc (by simp) _).drew, h.2.2.2.1.lt, (Blk3.new w _ _ _ _).alloc _, h.2.2.1.lt, ((below_alloc _ _).alloc (by simp) _).drew⟩
  have HBB : Hid (Blk3 ((w.alloc (.cells #[.slice none 0 0, .slice none 0 0, .slice none 0 0] 28)).alloc (.cells #[.slice none 0 0, .slice none 0 0, .slice none 0 0] 28)).drew (w.heap.size + 1) (.slice none 0 0) (.slice none 0 0) (.slice none 0 0)) := by have := Blk3.new (w.alloc (.cells #[.slice none 0 0, .slice none 0 0, .slice none 0 0] 28)) (.slice none 0 0) (.slice none 0 0) (.slice none 0 0) 28; rw [World.size_alloc] at this; exact this
  clear h hM
  go_enter Tryz.func17, Tryz.ntmps17
  go_wp2_with fail
  rename_i Kr hKr
  have rest : Hid (∀ (b3 : Nat) (e1 : Option Addr) (f1 : Nat) (e2 : Option Addr) (f2 : Nat) (y : World), Leaf w b oo N m nl l nw k g (.slice b1 nl d1) (.slice b2 nw d2) b3 (.slice none 0 0) (.slice e1 nl f1) (.slice e2 nw f2) (.slice e1 nl f1) (.slice e2 nw f2) y → Kr ⟨#[.pointer (some ⟨b, oo, none⟩), undef, .pointer (some ⟨w.heap.size, 0, none⟩), .pointer (some ⟨b3, 0, none⟩), undef, undef, .pointer (some ⟨b, oo, none⟩), .pointer (some ⟨b, oo, none⟩), .pointer (some ⟨b, oo + 1, none⟩), .slice b1 nl d1, .slice e1 nl f1, .pointer (some ⟨b, oo, none⟩), .pointer (some ⟨b, oo, none⟩), .pointer (some ⟨b, oo + 2, none⟩), .slice b2 nw d2, .slice e2 nw f2, .agg #[.slice none 0 0, .slice e1 nl f1, .slice e2 nw f2], undef, undef, undef, undef, undef, undef, undef, undef, undef, undef, undef, undef, undef, undef, undef, undef, undef, undef, undef, undef, undef, undef, undef, undef, undef], []⟩ y) := by
    intro b3 e1 f1 e2 f2 y hLf
    refine hKr _ _ ?_
    clear hKr h0 HP0 HPB HBB H1 H2
    have HLf : Hid (Leaf w b oo N m nl l nw k g (.slice b1 nl d1) (.slice b2 nw d2) b3 (.slice none 0 0) (.slice e1 nl f1) (.slice e2 nw f2) (.slice e1 nl f1) (.slice e2 nw f2) y) := hLf
    have p0 := hLf.cols.1.1
    have hP := hLf.pm
    clear hLf
    go_wp2_with (first | (at_range; refine wpList_prange _ rfl _ rfl g N m rfl hP ?_; intro w0 cnt hcnt hPR hB0 hs0) | go_in)
    go_frame
    have HL0 : Hid (Leaf w b oo N m nl l nw k g (.slice b1 nl d1) (.slice b2 nw d2) b3 (.slice none 0 0) (.slice e1 nl f1) (.slice e2 nw f2) (.slice e1 nl f1) (.slice e2 nw f2) w0) := HLf.out.later hB0
    have hbr : b3 < y.heap.size := HLf.out.own.lt
    obtain ⟨r, hr⟩ : ∃ r, y.heap.size = r := ⟨_, rfl⟩
    rw [hr] at hPR hs0 hbr
    rw [hr]
    have hg3 : g < b3 := by have := HLf.out.gl; have := HLf.out.lo; omega
    have hlo := HLf.out.lo
    have HY : Hid ((∀ q, (Value.slice e1 nl f1).ownBlock = some q → q < r) ∧ ∀ q, (Value.slice e2 nw f2).ownBlock = some q → q < r) := ⟨fun q e => by have := (HLf.out.s1.block q e).2; omega, fun q e => by have := (HLf.out.s2.block q e).2; omega⟩
    clear p0 hP hB0 HLf hr
    go_loopw [5] (fun _ wr => ∃ (left : Int → Int → Bool) (cnt : Nat) (v : Value) (L : List (List Int)), Hid (Rnd w w0 g r N m b3 (.slice e1 nl f1) (.slice e2 nw f2) left cnt v L wr)) (fun _ wr => wr.rangeLeft g r)
    case atStart => exact ⟨_, cnt, .slice none 0 0, [], hPR, ⟨⟨rfl, rfl, rfl⟩, by omega, fun _ _ _ _ => rfl⟩, HL0.out.own, OwnM.nil _ _ _ _, Col3.start m, by simpa using hcnt⟩
    case round =>
      clear hPR hcnt
      obtain ⟨left, cnt1, v, L, HR⟩ := hrel
      obtain ⟨ao, cp, rfl⟩ := HR.out.row.form
      have hpr := HR.out.pr
      have hcl : ∀ x y, Wf x → Wf y → left x y = true → (m x y).isSome = true := fun x y _ _ q => HR.out.col.2.2.2 x y q
      go_wp2_with (first | (at_next; refine wpList_pnext _ rfl _ rfl g r N m left cnt1 rfl hpr hcl ?_ ?_) | go_in)
      · intro hdone
        have hsr := HM.out.sorted HR.out.col hdone
        obtain ⟨rfl, hsr2⟩ := hsr
        have HSR : Hid (∀ d : Array (List Int), d.size = L.length → d.toList.Perm (rowD 3 L.length (fun p => L.flatten.getD p 0)).toList → SortedIn (ltOf (cf2 (fun x => x.getD 0 0) (fun x => x.getD 1 0))) 0 L.length d → ∀ t, t < L.length * 3 → rowF 3 d t = c t) := hsr2
        have HO : Hid (Row wr (r + 1) 3 L.length (fun p => L.flatten.getD p 0) (.slice ao L.length cp) ∧ Free wr (L.length * 3) (.slice ao L.length cp)) := (HR.out.row.own (flatten_len L HR.out.col.len)).row
        have t0 := HR.out.own.1.1
        have hlN : L.length ≤ 400 := by have := HR.out.len; omega
        clear hdone hpr hcl hsr2
        go_wp2_with fail
        refine (sortCell_any (r + 1) L.length _ _ _ HO.out.1 HO.out.2 (by omega)).mono ?_
        rintro e w5 ⟨rfl, d, hd1, ⟨hd2, hd3⟩, hrow5, hg5⟩
        have hturn : ∀ q, turn L.length (.slice ao L.length cp) = some q → r + 1 ≤ q := turn_off (fun _ kk hk => (HR.out.row.block kk hk).1)
        have hsam := HR.out.sam.step hg5 (fun q e => Or.inr (Or.inr (hturn q e)))
        have hB5 := HR.out.own.kept (hg5.block b3 HR.out.own.lt (fun e => by have := hturn b3 e.symm; omega))
        have hres := HL0.out.res.kept (hsam.2.2 w.heap.size (by omega) (by omega) (by omega))
        have hk1 := HL0.out.s1.kept (fun q hq => hsam.2.2 q (by have := HY.out.1 q hq; omega) (fun e => HL0.out.a1 (by rw [hq, e])) (by have := HY.out.1 q hq; omega))
        have hk2 := HL0.out.s2.kept (fun q hq => hsam.2.2 q (by have := HY.out.2 q hq; omega) (fun e => HL0.out.a2 (by rw [hq, e])) (by have := HY.out.2 q hq; omega))
        have HBW : Hid (Below w.heap.size w w5) := ⟨hsam.1.1.trans HL0.out.below.os, hsam.1.2.1.trans HL0.out.below.tape, hsam.1.2.2.trans HL0.out.below.output, by have := hsam.2.1; omega, fun i hi => (hsam.2.2 i (by omega) (by omega) (by omega)).trans (HL0.out.below.block i hi)⟩
        have HK : Hid ((Row w5 (r + 1) 3 L.length c (.slice ao L.length cp) ∧ Free w5 (L.length * 3) (.slice ao L.length cp)) ∧ (Own w5 (w.heap.size + 1) 62 5 nl l (.slice e1 nl f1) ∧ Own w5 (w.heap.size + 1) 36 4 nw k (.slice e2 nw f2))) := ⟨⟨hrow5.1.congr (HSR.out d hd1 hd2 hd3), hrow5.2⟩, hk1, hk2⟩
        have HAP : Hid (ApartD ⟨L.length, c, nl, l, nw, k⟩ (.slice ao L.length cp) (.slice e1 nl f1) (.slice e2 nw f2)) := apart_mk HK.out.1.1 hk1.row.1 (fun i j hi hj => by have := (HR.out.row.block i hi).1; have := HY.out.1 j hj; omega) (fun i j hi hj => by have := (HR.out.row.block i hi).1; have := HY.out.2 j hj; omega) (fun i j hi hj e => HL0.out.a12 i hi (by rw [hj, e]))
        obtain ⟨⟨y0, y1, y2⟩, _⟩ := hB5
        obtain ⟨⟨s0, s1, s2⟩, g0, g1, g2⟩ := hres
        have hlw : w.heap.size < w.heap.size + 1 := Nat.lt_succ_self _
        have hlr : w.heap.size < r + 1 := by omega
        clear t0 hd1 hd2 hd3 hrow5 hg5 hturn hsam hk1 hk2 HSR HO HR
        go_wp2
        exact bodyPost_ret (v := .agg #[.slice ao L.length cp, .slice e1 nl f1, .slice e2 nw f2]) (by simp [results, Tryz.results17, go_sem, s0, s1, s2]) rfl ⟨ao, cp, e1, f1, e2, f2, rfl, ⟨⟨(((HK.out.1.1.far (Or.inl hlr) _).far (Or.inl hlr) _).far (Or.inl hlr) _).mono (by omega), (((HK.out.2.1.row.1.far (Or.inl hlw) _).far (Or.inl hlw) _).far (Or.inl hlw) _).mono (by omega), (((HK.out.2.2.row.1.far (Or.inl hlw) _).far (Or.inl hlw) _).far (Or.inl hlw) _).mono (by omega)⟩, ⟨((HK.out.1.2.far _ _).far _ _).far _ _, ((HK.out.2.1.row.2.far _ _).far _ _).far _ _, ((HK.out.2.2.row.2.far _ _).far _ _).far _ _⟩, HAP.out⟩, ((HBW.out.setCell (Nat.le_refl _) _).setCell (Nat.le_refl _) _).setCell (Nat.le_refl _) _⟩
      · intro p q cc w1 cnt2 hx hy hc hlf hm hPR1 hlt hg1 hs1 hen
        have HN := HR.out.next hbr hPR1 hg1
        have hcl1 := HR.out.col
        have hlen : L.length + 1 + cnt2 ≤ N := by have := HR.out.len; omega
        have HLT : Hid (cnt2 < wr.rangeLeft g r) := by unfold Hid; rw [HR.out.pr.left_eq]; exact hlt
        have HX : Hid (((Wf p ∧ Wf q) ∧ left p q = true ∧ m p q = some cc) ∧ Col3 m left L) := ⟨⟨⟨hx, hy⟩, hlf, hm⟩, hcl1⟩
        have t0 := HN.2.1.1.1
        have zb : b3 < w1.heap.size := HN.2.1.lt
        have hbl := (below_alloc w1 (.cells #[.int .i64 p, .int .i64 q] 76)).alloc (by simp) (.cells #[.int .i64 p, .int .i64 q, .int .i64 cc] 59)
        have HN2 : Hid ((PR ((w1.alloc (.cells #[.int .i64 p, .int .i64 q] 76)).alloc (.cells #[.int .i64 p, .int .i64 q, .int .i64 cc] 59)) g r N m (strike left p q) cnt2 ∧ Sam w0 ((w1.alloc (.cells #[.int .i64 p, .int .i64 q] 76)).alloc (.cells #[.int .i64 p, .int .i64 q, .int .i64 cc] 59)) (r + 1) b3 r) ∧ Blk3 ((w1.alloc (.cells #[.int .i64 p, .int .i64 q] 76)).alloc (.cells #[.int .i64 p, .int .i64 q, .int .i64 cc] 59)) b3 (.slice ao L.length cp) (.slice e1 nl f1) (.slice e2 nw f2) ∧ OwnM ((w1.alloc (.cells #[.int .i64 p, .int .i64 q] 76)).alloc (.cells #[.int .i64 p, .int .i64 q, .int .i64 cc] 59)) (r + 1) 59 3 (.slice ao L.length cp) L.length L.flatten) := ⟨⟨HN.1.1.later hbl, HN.1.2.later hbl⟩, HN.2.1.later hbl, HN.2.2.later hbl⟩
        have hown := HN2.out.2.2
        clear hpr hcl HR hPR1 hg1 hlt hs1 HN hcl1 hx hy hlf hm hbl hc
        go_wp2_with (at_builtin; refine wpList_append_own _ rfl _ _ 24 rfl (r + 1) 59 i0 (.agg #[.int .i64 0, .int .i64 0, .int .i64 0]) 3 24 Tryz.underlying24 hi hz0 hz1 hz2 rfl (by decide) _ _ _ rfl hown ⟨_, 0, none⟩ 1 1 [.int .i64 p, .int .i64 q, .int .i64 cc] rfl rfl ?c1 ?c2 ?c3 ?c4 ?c5 ?_)
        case c1 =>
          intro j u hj
          match j, hj with
          | 0, hj => simp at hj; subst hj; simp [Addr.add]
          | 1, hj => simp at hj; subst hj; simp [Addr.add]
          | 2, hj => simp at hj; subst hj; simp [Addr.add]
        case c2 =>
          intro u hu
          simp at hu
          rcases hu with rfl | rfl | rfl <;> rfl
        case c3 => unfold maxLen; omega
        case c4 => omega
        case c5 => exact HN2.out.1.2.2.1
        intro v' w2 ho hg2 _
        rw [← List.map_flatten] at ho
        obtain ⟨ao', cp', rfl⟩ := (show OwnM w2 (r + 1) 59 3 v' (L.length + 1) (L.flatten ++ [p, q, cc]) from by unfold OwnM; rw [List.map_append]; exact ho).form
        have hvb : ∀ j, (Value.slice ao L.length cp).ownBlock = some j → r + 1 ≤ j := fun j hj => (HN2.out.2.2.block j hj).1
        have hB3 := HN2.out.2.1.kept (hg2.block b3 HN2.out.2.1.lt (fun e => by have := hvb b3 e.symm; omega))
        have HRn : Hid (Rnd w w0 g r N m b3 (.slice e1 nl f1) (.slice e2 nw f2) (strike left p q) cnt2 (.slice ao' (L.length + 1) cp') (L ++ [[p, q, cc]]) (w2.setCell ⟨b3, 0, none⟩ (.slice ao' (L.length + 1) cp'))) := Rnd.put hg3 hbr HN2.out HX.out.2 HX.out.1.1.1 HX.out.1.1.2 HX.out.1.2.1 HX.out.1.2.2 hlen ho hg2
        obtain ⟨⟨y0, _, _⟩, z0, _, _⟩ := hB3
        clear ho hg2 hvb hown HN2 t0 HX
        go_wp2
        go_roundw
        case rel => exact ⟨_, _, _, _, HRn⟩
        case measure => rw [HRn.out.pr.left_eq]; exact HLT.out
  refine wp_region_held_drew (S := ColBox w b oo (.map (some g)) (.slice b1 nl d1) (.slice b2 nw d2)) (by kernel_rfl) h0 (fun hS => ?_)
  clear h0
  refine tkH 0 ?_ hS (fun wx hx => ?_) ?_; rotate_left
  · obtain ⟨⟨⟨hx0, hx1, hx2⟩, _⟩, _⟩ := hx; go_simp; try with_reducible rfl
  refine tkH 1 ?_ hS (fun wx hx => ?_) ?_; rotate_left
  · obtain ⟨⟨⟨hx0, hx1, hx2⟩, _⟩, _⟩ := hx; go_simp; try with_reducible rfl
  refine tkH 2 ?_ hS (fun wx hx => ?_) ?_; rotate_left
  · obtain ⟨⟨⟨hx0, hx1, hx2⟩, _⟩, _⟩ := hx; go_simp; try with_reducible rfl
  refine tkH 3 ?_ hS (fun wx hx => ?_) ?_; rotate_left
  · obtain ⟨⟨⟨hx0, hx1, hx2⟩, _⟩, _⟩ := hx; go_simp; try with_reducible rfl
  refine tkH 5 ?_ hS (fun wx hx => ?_) ?_; rotate_left
  · obtain ⟨⟨⟨hx0, hx1, hx2⟩, _⟩, _⟩ := hx; go_simp; try with_reducible rfl
  refine tkH 6 ?_ hS (fun wx hx => ?_) ?_; rotate_left
  · obtain ⟨⟨⟨hx0, hx1, hx2⟩, _⟩, _⟩ := hx; go_simp; try with_reducible rfl
  refine tkH 7 ?_ hS (fun wx hx => ?_) ?_; rotate_left
  · obtain ⟨⟨⟨hx0, hx1, hx2⟩, _⟩, _⟩ := hx; go_simp; try with_reducible rfl
  refine tkH 8 ?_ hS (fun wx hx => ?_) ?_; rotate_left
  · obtain ⟨⟨⟨hx0, hx1, hx2⟩, _⟩, _⟩ := hx; go_simp; try with_reducible rfl
  refine wpAnyH_ready (rs := [4, 11]) (by kernel_rfl) (by simp) ?_
  refine AllReadyH.cons rfl (fun K hK => ?_) (AllReadyH.cons rfl (fun K hK => ?_) AllReadyH.nil)
  · refine step_copy (by rfl) _ 25 (by rfl) 62 i1 (.agg #[.int .i64 0, .int .i64 0, .int .i64 0, .int .i64 0, .int .i64 0]) 5 40 Tryz.underlying25 hi1 hz01 hz11 hz21 rfl (by omega) (by omega) _ B nl l (.slice b1 nl d1) (by rfl) (H1.out.later (w' := (w.alloc (.cells #[.slice none 0 0, .slice none 0 0, .slice none 0 0] 28)).drew) (below_alloc _ _).drew) (by omega) ?_
    intro r1 wA ho1 hb1
    obtain ⟨e1, f1, rfl⟩ := ho1.form
    have hS' := hS.later hb1
    have HP1 : Hid (Pre w b oo N m g (.slice b1 nl d1) (.slice b2 nw d2) wA) := HP0.out.later hb1
    have HO1 : Hid (Own wA (w.heap.size + 1) 62 5 nl l (.slice e1 nl f1)) := by rw [size_drew] at ho1; exact ho1
    have zA : Hid (w.heap.size + 1 ≤ wA.heap.size) := by have := hb1.size; rw [size_drew] at this; exact this
    clear ho1 hb1
    go_simp
    refine hK.out _ _ hS' (fun hS => ?_)
    clear hK K hS'
    refine wpAnyH_ready (rs := [9, 11]) (by kernel_rfl) (by simp) ?_
    refine AllReadyH.cons rfl (fun K hK => ?_) (AllReadyH.cons rfl (fun K hK => ?_) AllReadyH.nil)
    · refine step_copy (by rfl) _ 26 (by rfl) 36 i2 (.agg #[.int .i64 0, .int .i64 0, .int .i64 0, .int .i64 0]) 4 32 Tryz.underlying26 hi2 hz02 hz12 hz22 rfl (by omega) (by omega) _ B nw k (.slice b2 nw d2) (by rfl) (H2.out.later HP1.out.below) (by omega) ?_
      intro r2 wB ho2 hb2
      obtain ⟨e2, f2, rfl⟩ := ho2.form
      have hS' := hS.later hb2
      have HP2 : Hid (Pre w b oo N m g (.slice b1 nl d1) (.slice b2 nw d2) wB) := HP1.out.later hb2
      have HLf : Hid (Leaf w b oo N m nl l nw k g (.slice b1 nl d1) (.slice b2 nw d2) wB.heap.size (.slice none 0 0) (.slice e1 nl f1) (.slice e2 nw f2) (.slice e1 nl f1) (.slice e2 nw f2) (wB.alloc (.cells #[.slice none 0 0, .slice e1 nl f1, .slice e2 nw f2] 28))) :=
        (HP2.out.later (below_alloc wB (.cells #[.slice none 0 0, .slice e1 nl f1, .slice e2 nw f2] 28))).leaf (Blk3.new wB _ _ _ _) (by have := zA.out; have := hb2.size; omega) ((HO1.out.later hb2).alloc _) ((ho2.mono zA.out).alloc _) (fun j hj => by have := HO1.out.block j hj; have := hb2.size; omega) (fun j hj => by have := ho2.block j hj; omega) (fun i j hi hj => by have := HO1.out.block i hi; have := ho2.block j hj; omega)
      clear ho2 hb2 HP1 HO1 zA
      go_simp
      refine hK.out _ _ hS' (fun hS => ?_)
      clear hK K hS'
      refine tkH 10 ?_ hS (fun wx hx => ?_) ?_; rotate_left
      · obtain ⟨⟨⟨hx0, hx1, hx2⟩, _⟩, _⟩ := hx; go_simp; try with_reducible rfl
      refine rdH 11 (fun K hK => ?_)
      go_simp
      refine hK.out _ _ (hS.later (below_alloc _ _)) (fun hS => ?_)
      clear hK K
      refine rdH 12 (fun K hK => ?_)
      go_simp
      refine hK.out _ _ ⟨HLf.out.cols, HLf.out.below⟩ (fun hS => ?_)
      clear hK K hS HP2
      refine wpAnyH_done (by kernel_rfl) ?_ _
      go_simp
      exact rest.out _ _ _ _ _ _ HLf.out
    · have hS' := hS.later (below_alloc wA (.cells #[.slice none 0 0, .slice none 0 0, .slice none 0 0] 28))
      have HP2 : Hid (Pre w b oo N m g (.slice b1 nl d1) (.slice b2 nw d2) (wA.alloc (.cells #[.slice none 0 0, .slice none 0 0, .slice none 0 0] 28))) := HP1.out.later (below_alloc wA (.cells #[.slice none 0 0, .slice none 0 0, .slice none 0 0] 28))
      have HO2 : Hid (Own (wA.alloc (.cells #[.slice none 0 0, .slice none 0 0, .slice none 0 0] 28)) (w.heap.size + 1) 62 5 nl l (.slice e1 nl f1)) := HO1.out.alloc _
      go_simp
      refine hK.out _ _ hS' (fun hS => ?_)
      clear hK K hS'
      refine rdH 9 (fun K hK => ?_)
      refine step_copy (by rfl) _ 26 (by rfl) 36 i2 (.agg #[.int .i64 0, .int .i64 0, .int .i64 0, .int .i64 0]) 4 32 Tryz.underlying26 hi2 hz02 hz12 hz22 rfl (by omega) (by omega) _ B nw k (.slice b2 nw d2) (by rfl) (H2.out.later HP2.out.below) (by omega) ?_
      intro r2 wC ho2 hb2
      obtain ⟨e2, f2, rfl⟩ := ho2.form
      have hS' := hS.later hb2
      rw [World.size_alloc] at ho2
      have HLf : Hid (Leaf w b oo N m nl l nw k g (.slice b1 nl d1) (.slice b2 nw d2) wA.heap.size (.slice none 0 0) (.slice none 0 0) (.slice none 0 0) (.slice e1 nl f1) (.slice e2 nw f2) wC) :=
        (HP2.out.later hb2).leaf ((Blk3.new wA _ _ _ _).later hb2) (by have := zA.out; omega) (HO2.out.later hb2) (ho2.mono (by have := zA.out; omega)) (fun j hj => by have := HO1.out.block j hj; omega) (fun j hj => by have := ho2.block j hj; omega) (fun i j hi hj => by have := HO1.out.block i hi; have := ho2.block j hj; omega)
      clear ho2 hb2 HP1 HO1 zA HP2 HO2
      go_simp
      refine hK.out _ _ hS' (fun hS => ?_)
      clear hK K hS'
      refine tkH 10 ?_ hS (fun wx hx => ?_) ?_; rotate_left
      · obtain ⟨⟨⟨hx0, hx1, hx2⟩, _⟩, _⟩ := hx; go_simp; try with_reducible rfl
      refine rdH 12 (fun K hK => ?_)
      obtain ⟨⟨y0, y1, y2⟩, z0, z1, z2⟩ := HLf.out.own
      have HLg : Hid (Leaf w b oo N m nl l nw k g (.slice b1 nl d1) (.slice b2 nw d2) wA.heap.size (.slice none 0 0) (.slice e1 nl f1) (.slice e2 nw f2) (.slice e1 nl f1) (.slice e2 nw f2) (((wC.setCell ⟨wA.heap.size, 0, none⟩ (.slice none 0 0)).setCell ⟨wA.heap.size, 1, none⟩ (.slice e1 nl f1)).setCell ⟨wA.heap.size, 2, none⟩ (.slice e2 nw f2))) := HLf.out.put _ _ _
      go_simp
      refine hK.out _ _ ⟨HLg.out.cols, HLg.out.below⟩ (fun hS => ?_)
      clear hK K hS
      refine wpAnyH_done (by kernel_rfl) ?_ _
      go_simp
      exact rest.out _ _ _ _ _ _ HLg.out
  · have hS' : ColBox w b oo (.map (some g)) (.slice b1 nl d1) (.slice b2 nw d2) ((w.alloc (.cells #[.slice none 0 0, .slice none 0 0, .slice none 0 0] 28)).alloc (.cells #[.slice none 0 0, .slice none 0 0, .slice none 0 0] 28)).drew := ⟨HPB.out.cols, HPB.out.below⟩
    go_simp
    refine hK.out _ _ hS' (fun hS => ?_)
    clear hK K hS'
    refine rdH 4 (fun K hK => ?_)
    refine step_copy (by rfl) _ 25 (by rfl) 62 i1 (.agg #[.int .i64 0, .int .i64 0, .int .i64 0, .int .i64 0, .int .i64 0]) 5 40 Tryz.underlying25 hi1 hz01 hz11 hz21 rfl (by omega) (by omega) ((w.alloc (.cells #[.slice none 0 0, .slice none 0 0, .slice none 0 0] 28)).alloc (.cells #[.slice none 0 0, .slice none 0 0, .slice none 0 0] 28)).drew B nl l (.slice b1 nl d1) (by rfl) (H1.out.later HPB.out.below) (by omega) ?_
    intro r1 wB ho1 hb1
    obtain ⟨e1, f1, rfl⟩ := ho1.form
    have hS' := hS.later hb1
    have HP1 : Hid (Pre w b oo N m g (.slice b1 nl d1) (.slice b2 nw d2) wB) := HPB.out.later hb1
    have hX : (((w.alloc (.cells #[.slice none 0 0, .slice none 0 0, .slice none 0 0] 28)).alloc (.cells #[.slice none 0 0, .slice none 0 0, .slice none 0 0] 28)).drew).heap.size = w.heap.size + 2 := by simp
    rw [hX] at ho1
    have HO1 : Hid (Own wB (w.heap.size + 2) 62 5 nl l (.slice e1 nl f1)) := ho1
    have zB : Hid (w.heap.size + 2 ≤ wB.heap.size) := by have := hb1.size; rw [hX] at this; exact this
    have HB1 : Hid (Blk3 wB (w.heap.size + 1) (.slice none 0 0) (.slice none 0 0) (.slice none 0 0)) := HBB.out.later (x := ((w.alloc (.cells #[.slice none 0 0, .slice none 0 0, .slice none 0 0] 28)).alloc (.cells #[.slice none 0 0, .slice none 0 0, .slice none 0 0] 28)).drew) hb1
    clear ho1 hb1 hX
    go_simp
    refine hK.out _ _ hS' (fun hS => ?_)
    clear hK K hS'
    refine rdH 9 (fun K hK => ?_)
    refine step_copy (by rfl) _ 26 (by rfl) 36 i2 (.agg #[.int .i64 0, .int .i64 0, .int .i64 0, .int .i64 0]) 4 32 Tryz.underlying26 hi2 hz02 hz12 hz22 rfl (by omega) (by omega) _ B nw k (.slice b2 nw d2) (by rfl) (H2.out.later HP1.out.below) (by omega) ?_
    intro r2 wC ho2 hb2
    obtain ⟨e2, f2, rfl⟩ := ho2.form
    have hS' := hS.later hb2
    have HLf : Hid (Leaf w b oo N m nl l nw k g (.slice b1 nl d1) (.slice b2 nw d2) (w.heap.size + 1) (.slice none 0 0) (.slice none 0 0) (.slice none 0 0) (.slice e1 nl f1) (.slice e2 nw f2) wC) :=
      (HP1.out.later hb2).leaf (HB1.out.later hb2) (Nat.lt_succ_self _) ((HO1.out.later hb2).mono (by omega)) (ho2.mono (by have := zB.out; omega)) (fun j hj => by have := HO1.out.block j hj; omega) (fun j hj => by have := ho2.block j hj; have := zB.out; omega) (fun i j hi hj => by have := HO1.out.block i hi; have := ho2.block j hj; omega)
    clear ho2 hb2 HP1 HO1 zB HB1
    go_simp
    refine hK.out _ _ hS' (fun hS => ?_)
    clear hK K hS'
    refine tkH 10 ?_ hS (fun wx hx => ?_) ?_; rotate_left
    · obtain ⟨⟨⟨hx0, hx1, hx2⟩, _⟩, _⟩ := hx; go_simp; try with_reducible rfl
    refine rdH 12 (fun K hK => ?_)
    obtain ⟨⟨y0, y1, y2⟩, z0, z1, z2⟩ := HLf.out.own
    have HLg : Hid (Leaf w b oo N m nl l nw k g (.slice b1 nl d1) (.slice b2 nw d2) (w.heap.size + 1) (.slice none 0 0) (.slice e1 nl f1) (.slice e2 nw f2) (.slice e1 nl f1) (.slice e2 nw f2) (((wC.setCell ⟨w.heap.size + 1, 0, none⟩ (.slice none 0 0)).setCell ⟨w.heap.size + 1, 1, none⟩ (.slice e1 nl f1)).setCell ⟨w.heap.size + 1, 2, none⟩ (.slice e2 nw f2))) := HLf.out.put _ _ _
    go_simp
    refine hK.out _ _ ⟨HLg.out.cols, HLg.out.below⟩ (fun hS => ?_)
    clear hK K hS
    refine wpAnyH_done (by kernel_rfl) ?_ _
    go_simp
    exact rest.out _ _ _ _ _ _ HLg.out
theorem store_is (B b N : Nat) (m : Int → Int → Option Int) (nl : Nat) (l : Nat → Int) (nw : Nat) (k : Nat → Int) (g : Nat) (u1 u2 : Value) (w : World) (h : Cols w B b N m nl l nw k g u1 u2) (hl : nl ≤ 200) (hw : nw ≤ 200) (hN : N ≤ 400) (nc : Nat) (c : Nat → Int) (hM : MapRow m nc c) :
    Calls Tryz.prog 17 #[.pointer (some ⟨b, 0, none⟩)] w (NewSto w ⟨nc, c, nl, l, nw, k⟩) := store_isO B b 0 N m nl l nw k g u1 u2 w h.o hl hw hN nc c hM
end Go.Proofs.YtgedodcojalidaaGreat

namespace Go.Proofs.YtgedodcojalidaaGreat
section
open Go.RowKit Go.Sort Go.Shelf Go.Lib
end

section
open Go.RowKit Go.Lib
theorem below_drew (w : World) : Below w.heap.size w w.drew := ⟨rfl, rfl, rfl, Nat.le_refl _, fun _ _ => rfl⟩
end

section
open Go.RowKit Go.Lib
end
end Go.Proofs.YtgedodcojalidaaGreat

namespace Go.Proofs.YtgedodcojalidaaGreat
section
open Go.RowKit
def firstW (k : Nat → Int) (n : Nat) (key start : Int) (i : Nat) : Prop := i < n ∧ writeIs k key start i ∧ ∀ j, j < i → ¬ writeIs k key start j
def lastP (k : Nat → Int) (key ts : Int) (i : Nat) : Prop := k (i * 4) = key ∧ k (i * 4 + 1) ≤ ts ∧ k (i * 4 + 3) ≤ 2
def lastW (k : Nat → Int) (n : Nat) (key ts : Int) (i : Nat) : Prop := i < n ∧ lastP k key ts i ∧ ∀ j, i < j → j < n → ¬ lastP k key ts j
theorem firstW.one {k : Nat → Int} {n : Nat} {a b : Int} {i j : Nat} (h : firstW k n a b i) (h' : firstW k n a b j) : i = j := by
  rcases Nat.lt_trichotomy i j with e | e | e
  · exact absurd h.2.1 (h'.2.2 i e)
  · exact e
  · exact absurd h'.2.1 (h.2.2 j e)
theorem lastW.one {k : Nat → Int} {n : Nat} {a b : Int} {i j : Nat} (h : lastW k n a b i) (h' : lastW k n a b j) : i = j := by
  rcases Nat.lt_trichotomy i j with e | e | e
  · exact absurd h'.2.1 (h.2.2 j e h'.1)
  · exact e
  · exact absurd h.2.1 (h'.2.2 i e h.1)
theorem lastW_skip {k : Nat → Int} {key ts : Int} {q : Nat} (h : ¬ lastP k key ts q) (i : Nat) : lastW k (q + 1) key ts i ↔ lastW k q key ts i := by
  constructor
  · rintro ⟨h1, h2, h3⟩
    have hi : i < q := by
      rcases Nat.lt_or_ge i q with e | e
      · exact e
      · obtain rfl : i = q := by omega
        exact absurd h2 h
    exact ⟨hi, h2, fun j hj hjq => h3 j hj (by omega)⟩
  · rintro ⟨h1, h2, h3⟩
    refine ⟨by omega, h2, fun j hj hjq => ?_⟩
    rcases Nat.lt_or_ge j q with e | e
    · exact h3 j hj e
    · obtain rfl : j = q := by omega
      exact h
end

section
open Go.RowKit
set_option maxRecDepth 100000 in
set_option maxHeartbeats 4000000 in
theorem l2Last_anyO (S : Sto) (b oo : Nat) (v0 v1 v2 : Value) (key ts : Int) (w : World) (h : LiesO w b oo S v0 v1 v2) (hn : S.nw ≤ 200) :
    Calls Tryz.prog 136 #[.pointer (some ⟨b, oo, none⟩), .int .i64 key, .int .i64 ts] w fun e w' => ∃ r : Int, e = .returned (.int .i64 r) ∧ ((r = -1 ∧ ∀ i, ¬ lastW S.k S.nw key ts i) ∨ ∃ i : Nat, lastW S.k S.nw key ts i ∧ r = i) ∧ Below w.heap.size w w' := by
  obtain ⟨a0, c0, a1, c1, a2, c2, rfl, rfl, rfl⟩ := h.2.form
  have H : Hid (LiesO w b oo S (.slice a0 S.nc c0) (.slice a1 S.nl c1) (.slice a2 S.nw c2)) := h
  clear h
  go_enter Tryz.func136, Tryz.ntmps136
  go_wp2
  go_loopw [7, 8] (fun o i wr => ∃ (q : Nat) (r : Int), q ≤ S.nw ∧ i = .int .i64 q ∧ o = .int .i64 r ∧ Hid ((r = -1 ∧ ∀ i, ¬ lastW S.k q key ts i) ∨ ∃ i : Nat, lastW S.k q key ts i ∧ r = i) ∧ Hid (Below w.heap.size w wr)) (fun _ i _ => S.nw - (intOf i).toNat)
  case atStart => exact ⟨0, -1, Nat.zero_le _, rfl, rfl, Or.inl ⟨rfl, fun i hi => absurd hi.1 (Nat.not_lt_zero i)⟩, Below.refl _ _⟩
  case round =>
    obtain ⟨q, r, hq, rfl, rfl, HS, HB⟩ := hrel
    have HL : Hid (LiesO wr b oo S (.slice a0 S.nc c0) (.slice a1 S.nl c1) (.slice a2 S.nw c2)) := H.out.later HB.out
    have e2 := HL.out.1.2.2
    by_cases hlt : q < S.nw
    case neg =>
      obtain rfl : q = S.nw := by omega
      clear HL
      go_wp2
      go_ret
      exact ⟨r, rfl, HS.out, HB.out⟩
    obtain ⟨g, o, rfl, _, hg, x0, x1, x2, x3⟩ := HL.out.2.2.2.at4 hlt
    obtain ⟨n0, N0⟩ : ∃ x, S.k (q * 4) = x := ⟨_, rfl⟩
    rw [N0] at x0
    obtain ⟨n1, N1⟩ : ∃ x, S.k (q * 4 + 1) = x := ⟨_, rfl⟩
    rw [N1] at x1
    obtain ⟨n2, N2⟩ : ∃ x, S.k (q * 4 + 2) = x := ⟨_, rfl⟩
    rw [N2] at x2
    obtain ⟨n3, N3⟩ : ∃ x, S.k (q * 4 + 3) = x := ⟨_, rfl⟩
    rw [N3] at x3
    have hbl := HL.out.lt
    have HE : Hid (Below w.heap.size w (wr.alloc (.cells #[.int .i64 n0, .int .i64 n1, .int .i64 n2, .int .i64 n3] 36))) := HB.out.alloc HB.out.size _
    have LP : lastP S.k key ts q ↔ n0 = key ∧ n1 ≤ ts ∧ n3 ≤ 2 := by unfold lastP; rw [N0, N1, N3]
    by_cases hp : lastP S.k key ts q
    · obtain ⟨rfl, h1, h3⟩ := LP.1 hp
      have d1 : decide (n1 ≤ ts) = true := decide_eq_true h1
      have d3 : decide (n3 ≤ 2) = true := decide_eq_true h3
      have E : Hid (((q : Int) = -1 ∧ ∀ i, ¬ lastW S.k (q + 1) n0 ts i) ∨ ∃ i : Nat, lastW S.k (q + 1) n0 ts i ∧ (q : Int) = i) := Or.inr ⟨q, ⟨by omega, hp, fun j h1 h2 => by omega⟩, rfl⟩
      clear LP hp N0 N1 N2 N3 HS HL HB h1 h3
      go_wp2
      go_roundw
      case rel => exact ⟨q + 1, q, by omega, by go_num, rfl, E, HE⟩
      case measure => simp [intOf]; omega
    · have E : Hid ((r = -1 ∧ ∀ i, ¬ lastW S.k (q + 1) key ts i) ∨ ∃ i : Nat, lastW S.k (q + 1) key ts i ∧ r = i) := by
        rcases HS.out with ⟨e, h⟩ | ⟨i, h, e⟩
        · exact Or.inl ⟨e, fun i hi => h i ((lastW_skip hp i).1 hi)⟩
        · exact Or.inr ⟨i, (lastW_skip hp i).2 h, e⟩
      have hno : ¬ (n0 = key ∧ n1 ≤ ts ∧ n3 ≤ 2) := fun e => hp (LP.2 e)
      clear LP hp N0 N1 N2 N3 HS HL HB
      by_cases h0 : n0 = key
      case neg =>
        have d0 : (n0 == key) = false := beq_eq_false_iff_ne.2 h0
        clear hno h0
        go_wp2
        go_roundw
        case rel => exact ⟨q + 1, r, by omega, by go_num, rfl, E, HE⟩
        case measure => simp [intOf]; omega
      subst h0
      by_cases h1 : n1 ≤ ts
      case neg =>
        have d1 : decide (n1 ≤ ts) = false := decide_eq_false h1
        clear hno h1
        go_wp2
        go_roundw
        case rel => exact ⟨q + 1, r, by omega, by go_num, rfl, E, HE⟩
        case measure => simp [intOf]; omega
      have d1 : decide (n1 ≤ ts) = true := decide_eq_true h1
      have d3 : decide (n3 ≤ 2) = false := decide_eq_false (fun q => hno ⟨rfl, h1, q⟩)
      clear hno h1
      go_wp2
      go_roundw
      case rel => exact ⟨q + 1, r, by omega, by go_num, rfl, E, HE⟩
      case measure => simp [intOf]; omega
theorem l2Last_noO (S : Sto) (b oo : Nat) (v0 v1 v2 : Value) (key ts : Int) (w : World) (h : LiesO w b oo S v0 v1 v2) (hn : S.nw ≤ 200) (hq : ∀ i, ¬ lastW S.k S.nw key ts i) :
    Calls Tryz.prog 136 #[.pointer (some ⟨b, oo, none⟩), .int .i64 key, .int .i64 ts] w fun e w' => e = .returned (.int .i64 (-1)) ∧ Below w.heap.size w w' :=
  (l2Last_anyO S b oo v0 v1 v2 key ts w h hn).mono fun e w' ⟨r, he, hr, hw⟩ => ⟨by
    rcases hr with ⟨rfl, _⟩ | ⟨i, hi, _⟩
    · exact he
    · exact absurd hi (hq i), hw⟩
theorem l2Last_no (S : Sto) (b : Nat) (v0 v1 v2 : Value) (key ts : Int) (w : World) (h : Lies w b S v0 v1 v2) (hn : S.nw ≤ 200) (hq : ∀ i, ¬ lastW S.k S.nw key ts i) :
    Calls Tryz.prog 136 #[.pointer (some ⟨b, 0, none⟩), .int .i64 key, .int .i64 ts] w fun e w' => e = .returned (.int .i64 (-1)) ∧ Below w.heap.size w w' := l2Last_noO S b 0 v0 v1 v2 key ts w h hn hq
theorem l2Last_yesO (S : Sto) (b oo : Nat) (v0 v1 v2 : Value) (key ts : Int) (i : Nat) (w : World) (h : LiesO w b oo S v0 v1 v2) (hn : S.nw ≤ 200) (hq : lastW S.k S.nw key ts i) :
    Calls Tryz.prog 136 #[.pointer (some ⟨b, oo, none⟩), .int .i64 key, .int .i64 ts] w fun e w' => e = .returned (.int .i64 i) ∧ Below w.heap.size w w' :=
  (l2Last_anyO S b oo v0 v1 v2 key ts w h hn).mono fun e w' ⟨r, he, hr, hw⟩ => ⟨by
    rcases hr with ⟨_, h⟩ | ⟨j, hj, rfl⟩
    · exact absurd hq (h i)
    · rw [he, hj.one hq], hw⟩
theorem l2Last_yes (S : Sto) (b : Nat) (v0 v1 v2 : Value) (key ts : Int) (i : Nat) (w : World) (h : Lies w b S v0 v1 v2) (hn : S.nw ≤ 200) (hq : lastW S.k S.nw key ts i) :
    Calls Tryz.prog 136 #[.pointer (some ⟨b, 0, none⟩), .int .i64 key, .int .i64 ts] w fun e w' => e = .returned (.int .i64 i) ∧ Below w.heap.size w w' := l2Last_yesO S b 0 v0 v1 v2 key ts i w h hn hq
end
end Go.Proofs.YtgedodcojalidaaGreat

namespace Go.Proofs.YtgedodcojalidaaGreat
section
open Go.RowKit Go.Lib
end

section
open Go.RowKit Go.Lib
end

section
open Go.RowKit Go.Lib
theorem first_w {k : Nat → Int} {n : Nat} {a s : Int} {i : Nat} (h : FirstAt (writeIs k a s) n i) : firstW k n a s i := by
  rcases h with ⟨q, _⟩ | ⟨j, hj, q, h1, h2⟩
  · omega
  · obtain rfl : i = j := by omega
    exact ⟨hj, h1, h2⟩
end

section
open Go.RowKit Go.Lib
end

section
open Go.RowKit Go.Lib
theorem placeAt.get (p : Nat → Prop) : ∀ n, ∃ k, placeAt p n k
  | 0 => ⟨0, Nat.le_refl _, fun j hj => absurd hj (Nat.not_lt_zero _), fun h => absurd h (Nat.lt_irrefl _)⟩
  | n + 1 => by
    obtain ⟨k, h1, h2, h3⟩ := placeAt.get p n
    rcases Nat.lt_or_ge k n with e | e
    · exact ⟨k, by omega, h2, fun _ => h3 e⟩
    · obtain rfl : k = n := by omega
      by_cases q : p k
      · exact ⟨k + 1, Nat.le_refl _, fun j hj => by
          rcases Nat.lt_or_ge j k with r | r
          · exact h2 j r
          · obtain rfl : j = k := by omega
            exact q, fun h => absurd h (Nat.lt_irrefl _)⟩
      · exact ⟨k, by omega, h2, fun _ => q⟩
def Small (R : Sto) : Prop := R.nc ≤ 1048576 ∧ R.nl ≤ 1048576 ∧ R.nw ≤ 1048576
theorem small_empty : Small emptyS := by unfold Small emptyS; decide
theorem CommitRes.get (S : Sto) (hz : storeF S = 0) (a s c : Int) : ∃ r R, Small R ∧ CommitRes S a s c r R := by
  obtain ⟨⟨hc, hl, hw⟩, _⟩ := storeF_zero hz
  have hS : Small S := ⟨by omega, by omega, by omega⟩
  obtain ⟨i, hi⟩ := FirstAt.get (writeIs S.k a s) S.nw
  rcases hi with ⟨rfl, hn⟩ | ⟨i, hi, rfl, hp, hq⟩
  · have h1 : FirstAt (writeIs S.k a s) S.nw (-1) := Or.inl ⟨rfl, hn⟩
    obtain ⟨j, hj⟩ := FirstAt.get (lockIs S.l a) S.nl
    rcases hj with ⟨rfl, hn2⟩ | ⟨j, hj, rfl, hp2, hq2⟩
    · exact ⟨4, emptyS, small_empty, Or.inr (Or.inr (Or.inl ⟨h1, Or.inl (Or.inl ⟨rfl, hn2⟩), rfl, rfl⟩))⟩
    · have h2 : FirstAt (lockIs S.l a) S.nl (j : Int) := Or.inr ⟨j, hj, rfl, hp2, hq2⟩
      by_cases h3 : S.l (j * 5 + 1) = s
      · by_cases h4 : ∃ i, i < S.nw ∧ writeAt S.k a c i
        · exact ⟨6, emptyS, small_empty, Or.inr (Or.inr (Or.inr (Or.inl ⟨j, h1, h2, h3, h4, rfl, rfl⟩)))⟩
        · by_cases h5 : 200 ≤ S.nw
          · exact ⟨2, emptyS, small_empty, Or.inr (Or.inr (Or.inr (Or.inr (Or.inl ⟨j, h1, h2, h3, h4, h5, rfl, rfl⟩))))⟩
          · obtain ⟨k, hk⟩ := placeAt.get (aheadW S.k a c) S.nw
            refine ⟨0, commitS S a s c (S.l (j * 5 + 2)) k, ⟨hS.1, ?_, ?_⟩, Or.inr (Or.inr (Or.inr (Or.inr (Or.inr ⟨j, k, h1, h2, h3, h4, by omega, hk, rfl, rfl⟩))))⟩
            · exact Nat.le_trans (selD_le _ _ _ _) hS.2.1
            · show S.nw + 1 ≤ _
              omega
      · exact ⟨4, emptyS, small_empty, Or.inr (Or.inr (Or.inl ⟨h1, Or.inr ⟨j, h2, h3⟩, rfl, rfl⟩))⟩
  · have h1 : FirstAt (writeIs S.k a s) S.nw (i : Int) := Or.inr ⟨i, hi, rfl, hp, hq⟩
    by_cases h2 : S.k (i * 4 + 1) = c
    · exact ⟨0, S, hS, Or.inl ⟨i, h1, h2, rfl, rfl⟩⟩
    · exact ⟨6, emptyS, small_empty, Or.inr (Or.inl ⟨i, h1, h2, rfl, rfl⟩)⟩
theorem CommitAns.get (S : Sto) (a s c : Int) : ∃ r R, Small R ∧ CommitAns S a s c r R := by
  by_cases hz : askF S a = 0
  · by_cases hs : isT s
    · by_cases hc : isT c
      · by_cases h : c ≤ s
        · exact ⟨1, emptyS, small_empty, Or.inr (Or.inr (Or.inr (Or.inl ⟨hz, hs, hc, h, rfl, rfl⟩)))⟩
        · obtain ⟨r, R, h1, h2⟩ := CommitRes.get S (askF_zero hz).1 a s c
          exact ⟨r, R, h1, Or.inr (Or.inr (Or.inr (Or.inr ⟨hz, hs, hc, by omega, h2⟩)))⟩
      · exact ⟨3, emptyS, small_empty, Or.inr (Or.inr (Or.inl ⟨hz, hs, hc, rfl, rfl⟩))⟩
    · exact ⟨3, emptyS, small_empty, Or.inr (Or.inl ⟨hz, hs, rfl, rfl⟩)⟩
  · exact ⟨_, emptyS, small_empty, Or.inl ⟨hz, rfl, rfl⟩⟩
end
end Go.Proofs.YtgedodcojalidaaGreat

