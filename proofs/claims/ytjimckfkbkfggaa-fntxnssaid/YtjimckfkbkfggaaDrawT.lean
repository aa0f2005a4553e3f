/-
  Own text. Chapter 8, what is drawn: lists of keys, rows of items, and the four arguments of NewTxn; whatever the bytes are.
-/
import Derived.Test.YtjimckfkbkfggaaDrawC
import Derived.Test.YtjimckfkbkfggaaTxnM
namespace Go.Proofs.Ytjimckfkbkfggaa
open Go.RowKit

theorem Src.keepT {w X X' : World} {b : Nat} {o : Option Addr} {len cap : Nat} {a a0 : Int} (h0 : Src w b o len cap a0) (h : Src X b o len cap a) (hT : But b w X) {row : Option Nat} (gr : X.grownBy X' row) (hr : ∀ r, row = some r → w.heap.size ≤ r) : Src X' b o len cap a ∧ But b w X' := by
  have hb := h0.lt
  have hbX : b < X.heap.size := Nat.lt_of_lt_of_le hb hT.size
  have kb : X'.heap[b]? = X.heap[b]? := gr.block b hbX (fun e => by have := hr b e.symm; omega)
  have hB : But b w X' := ⟨gr.os.trans hT.os, gr.tape.trans hT.tape, gr.output.trans hT.output, Nat.le_trans hT.size gr.size, fun i hi hne => (gr.block i (Nat.lt_of_lt_of_le hi hT.size) (fun e => by have := hr i e.symm; omega)).trans (hT.block i hi hne)⟩
  refine ⟨⟨(World.cell?_of_block (w := X) (a := ⟨b, 0, none⟩) kb).trans h.code, (World.cell?_of_block (w := X) (a := ⟨b, 1, none⟩) kb).trans h.count, (World.frozen?_of_block (w := X) (a := ⟨b, 1, none⟩) kb).trans h.live, h.pos, fun j hj => ?_⟩, hB⟩
  obtain ⟨g, off, n, e1, e2, e3, e4⟩ := h0.bytes j hj
  exact ⟨g, off, n, e1, e2, hB.cell e3 e2, e4⟩
theorem OwnM.but {w w' : World} {b B : Nat} {e : TypeId} {m n : Nat} {v : Value} {L : List Int} (h : OwnM w B e m v n L) (hT : But b w w') (hb : b < B) : OwnM w' B e m v n L :=
  h.keptB (fun k hk => hT.block k (h.block k hk).2 (fun e' => by have := Option.some.inj e'; have := (h.block k hk).1; omega))
theorem row_lit1 (w : World) (x0 : Int) (t : TypeId) (b : Nat) (hb : w.heap.size = b) : Row (w.alloc (.cells #[.int .i64 x0] t)) 0 1 1 (fun p => [x0].getD p 0) (.slice (some ⟨b, 0, none⟩) 1 1) := by
  subst hb
  refine ⟨_, _, rfl, fun _ => ⟨w.heap.size, 0, rfl, Nat.zero_le _, by simp, fun p hp => ?_⟩⟩
  rw [Nat.zero_add]
  match p, hp with
  | 0, _ => exact World.cell?_alloc_mark w _ _ _ 0
/-- A row under way while the source is drawn from. -/
structure Draw (w : World) (b : Nat) (o : Option Addr) (len cap : Nat) (e : TypeId) (m n : Nat) (v : Value) (a : Int) (x : World) : Prop where
  own : ∃ L, OwnM x w.heap.size e m v n L
  src : Src x b o len cap a
  but : But b w x
set_option maxRecDepth 100000 in
set_option maxHeartbeats 2000000 in
theorem l8Reads_any (w : World) (b : Nat) (o : Option Addr) (len cap : Nat) (a : Int) (h : Src w b o len cap a) (ha : a ≤ 500000) (hl : len ≤ 1048576) :
    Calls Try.prog 37 #[.pointer (some ⟨b, 0, none⟩)] w fun e w' => ∃ (n : Nat) (ao : Option Addr) (cp : Nat) (a1 : Int), e = .returned (.slice ao n cp) ∧ n ≤ 3 ∧ a1 ≤ a + 20 ∧ Draw w b o len cap 2 1 n (.slice ao n cp) a1 w' := by
  have H : Hid (Src w b o len cap a) := h
  have hbl := h.lt
  clear h
  obtain ⟨i0, hi, hz0, hz1, hz2⟩ := info_parts info_i64T
  have D0 : Hid (Draw w b o len cap 2 1 0 (.slice (some ⟨w.heap.size, 0, none⟩) 0 0) a (w.alloc (.cells #[] 2))) := ⟨⟨[], OwnM.lit0 _ _ _ _ rfl⟩, H.out.alloc _, (But.refl _ _).alloc _⟩
  go_enter Try.func37, Try.ntmps37
  go_wp2_with fail
  refine (l1Next_any _ b o len cap a 4 D0.out.src (by omega) hl).mono ?_
  rintro e w1 ⟨r, rfl, p0, p1, hS1, hT1⟩
  have p2 : r < 4 := p1 (by omega)
  obtain ⟨k0, rfl⟩ : ∃ k : Nat, r = k := ⟨r.toNat, by omega⟩
  have D1 : Hid (Draw w b o len cap 2 1 0 (.slice (some ⟨w.heap.size, 0, none⟩) 0 0) (a + 1) w1) := ⟨⟨[], OwnM.but (OwnM.lit0 w w.heap.size 2 1 rfl) hT1 hbl⟩, hS1, D0.out.but.trans hT1⟩
  clear hS1 hT1 D0 p0 p1
  go_wp2
  go_loopw [3, 4] (fun v k wr => ∃ (n z : Nat) (ao : Option Addr) (cp : Nat) (a1 : Int), v = .slice ao n cp ∧ k = .int .i64 z ∧ n + z ≤ 3 ∧ a1 + 5 * z ≤ a + 20 ∧ Hid (Draw w b o len cap 2 1 n (.slice ao n cp) a1 wr)) (fun _ k _ => (intOf k).toNat)
  case atStart => exact ⟨0, k0, _, _, a + 1, rfl, rfl, by omega, by omega, D1⟩
  case round =>
    clear D1
    obtain ⟨n, z, ao, cp, a1, rfl, rfl, hnz, haz, HD⟩ := hrel
    by_cases hz : 0 < z
    case neg =>
      obtain rfl : z = 0 := by omega
      go_wp2
      go_ret
      exact ⟨n, ao, cp, a1, rfl, by omega, by omega, HD.out⟩
    have dz : decide (0 < z) = true := decide_eq_true hz
    have hwz : IntKind.i64.wrap ((z : Int) - 1) = ((z - 1 : Nat) : Int) := by simp [IntKind.wrap, IntKind.bits, IntKind.signed]; omega
    go_wp2_with fail
    refine (l1Key_any _ b o len cap a1 HD.out.src (by omega) hl).mono ?_
    rintro e w2 ⟨key, rfl, _, hS2, hT2⟩
    obtain ⟨L, hL⟩ := HD.out.own
    have O2 : Hid (OwnM w2 w.heap.size 2 1 (.slice ao n cp) n L) := hL.but hT2 hbl
    have S2 : Hid (Src w2 b o len cap (a1 + 5) ∧ But b w w2) := ⟨hS2, HD.out.but.trans hT2⟩
    have hsz : w.heap.size ≤ w2.heap.size := S2.out.2.size
    clear hL hS2 hT2 HD
    go_wp2_with (at_builtin; refine wpList_appX 2 i0 (.int .i64 0) 1 8 rfl _ _ 24 rfl Try.underlying24 hi hz0 hz1 hz2 rfl (by omega) (by omega) _ w.heap.size n L (.slice ao n cp) rfl (O2.out.later (below_alloc _ _)) 0 1 (fun p => [key].getD p 0) _ rfl (row_lit1 _ key _ _ (by simp)) (by omega) (by simp; omega) ?_; intro ao3 cp3 w3 O3 G3 _)
    have K3 := Src.keepT H.out (S2.out.1.alloc (.cells #[.int .i64 key] 2)) (S2.out.2.alloc _) G3 (fun r e => (O2.out.block r e).1)
    have D3 : Hid (Draw w b o len cap 2 1 (n + 1) (.slice ao3 (n + 1) cp3) (a1 + 5) w3) := ⟨⟨_, O3⟩, K3.1, K3.2⟩
    clear O3 G3 K3 O2 S2
    go_wp2
    go_roundw
    case rel => exact ⟨n + 1, z - 1, ao3, cp3, a1 + 5, rfl, by go_num, by omega, by omega, D3⟩
    case measure => simp [intOf]; omega
theorem Blk3.but {x x' : World} {b c : Nat} {a0 a1 a2 : Value} (h : Blk3 x c a0 a1 a2) (hT : But b x x') (hc : c ≠ b) : Blk3 x' c a0 a1 a2 := h.kept (hT.block c h.lt (fun e => hc (Option.some.inj e)))
theorem But.setNew {b : Nat} {w x : World} (h : But b w x) {c : Nat} (hc : w.heap.size ≤ c) (off : Nat) (v : Value) : But b w (x.setCell ⟨c, off, none⟩ v) :=
  ⟨h.os, h.tape, h.output, by simpa [World.setCell] using h.size, fun k hk hne => (Below.heap_setCell x ⟨c, off, none⟩ v k (by simp; omega)).trans (h.block k hk hne)⟩
theorem Src.setNew {w x : World} {b : Nat} {o : Option Addr} {len cap : Nat} {a a0 : Int} (h0 : Src w b o len cap a0) (h : Src x b o len cap a) (hT : But b w x) {c : Nat} (hc : w.heap.size ≤ c) (off : Nat) (v : Value) : Src (x.setCell ⟨c, off, none⟩ v) b o len cap a :=
  (Src.keepT (X' := x.setCell ⟨c, off, none⟩ v) h0 h hT (row := some c) ⟨rfl, rfl, rfl, by simp [World.setCell], fun k _ hne => Below.heap_setCell x ⟨c, off, none⟩ v k (fun e => hne (by rw [e]))⟩ (fun r e => by have := Option.some.inj e; omega)).1
set_option maxRecDepth 100000 in
set_option maxHeartbeats 2000000 in
theorem l8DrawItem_any (w : World) (b : Nat) (o : Option Addr) (len cap : Nat) (a : Int) (h : Src w b o len cap a) (ha : a ≤ 600000) (hl : len ≤ 1048576) :
    Calls Try.prog 59 #[.pointer (some ⟨b, 0, none⟩)] w fun e w' => ∃ x0 x1 x2 a1 : Int, e = .returned (.agg #[.int .i64 x0, .int .i64 x1, .int .i64 x2]) ∧ a1 ≤ a + 10 ∧ Src w' b o len cap a1 ∧ But b w w' := by
  have H : Hid (Src w b o len cap a) := h
  have hbl := h.lt
  clear h
  have K0 : Hid (Blk3 (w.alloc (.cells #[.int .i64 0, .int .i64 0, .int .i64 0] 35)) w.heap.size (.int .i64 0) (.int .i64 0) (.int .i64 0)) := Blk3.new w _ _ _ _
  go_enter Try.func59, Try.ntmps59
  go_wp2_with fail
  refine (l1Key_any _ b o len cap a (H.out.alloc _) (by omega) hl).mono ?_
  rintro e w1 ⟨key, rfl, _, hS1, hT1⟩
  have K1 : Hid (Blk3 w1 w.heap.size (.int .i64 0) (.int .i64 0) (.int .i64 0) ∧ Src w1 b o len cap (a + 5) ∧ But b w w1) := ⟨K0.out.but hT1 (by omega), hS1, ((But.refl _ _).alloc _).trans hT1⟩
  clear hS1 hT1 K0
  have hI : Hid (Ints (w1.alloc (.cells #[.int .i64 1, .int .i64 1, .int .i64 1, .int .i64 2] 2)) w1.heap.size (.slice (some ⟨w1.heap.size, 0, none⟩) 4 4) [1, 1, 1, 2]) := World.ownsRow_lit w1 #[.int .i64 1, .int .i64 1, .int .i64 1, .int .i64 2] 4 (Nat.le_refl _) (by decide) rfl
  go_wp2_with fail
  refine (l1Pick_any _ b o len cap (a + 5) _ w1.heap.size [1, 1, 1, 2] (K1.out.2.1.alloc _) (by omega) hl hI.out K1.out.2.1.lt (by simp) (by simp)).mono ?_
  rintro e w2 ⟨kd, rfl, hkd, hS2, hT2⟩
  have K2 : Hid (Blk3 w2 w.heap.size (.int .i64 0) (.int .i64 0) (.int .i64 0) ∧ Src w2 b o len cap (a + 5 + 1) ∧ But b w w2) := ⟨(K1.out.1.alloc _).but hT2 (by omega), hS2, (K1.out.2.2.alloc _).trans hT2⟩
  have hz2 : w.heap.size + 1 ≤ w2.heap.size := K2.out.1.lt
  clear hS2 hT2 K1 hI
  by_cases hk : kd = 1
  · subst hk
    go_wp2_with fail
    refine (l1Next_any _ b o len cap (a + 5 + 1) 99 (K2.out.2.1.alloc _) (by omega) hl).mono ?_
    rintro e w3 ⟨v, rfl, _, _, hS3, hT3⟩
    have B3 := (Blk3.new w2 (.int .i64 key) (.int .i64 1) (.int .i64 0) 35).but hT3 (by omega)
    have R3 := (K2.out.1.alloc (.cells #[.int .i64 key, .int .i64 1, .int .i64 0] 35)).but hT3 (by omega)
    have T3 : But b w w3 := (K2.out.2.2.alloc _).trans hT3
    have S3 : Src w3 b o len cap (a + 5 + 1 + 1) := hS3
    have K3 : Hid (Src w3 b o len cap (a + 5 + 1 + 1) ∧ But b w w3) := ⟨S3, T3⟩
    obtain ⟨⟨b0, b1, b2⟩, fb0, fb1, fb2⟩ := B3
    obtain ⟨⟨r0, r1, r2⟩, fr0, fr1, fr2⟩ := R3
    have hlb := World.block_lt_of_cell? w3 _ b0
    have hlr := World.block_lt_of_cell? w3 _ r0
    have S4 : Hid (Src (w3.setCell ⟨w2.heap.size, 2, none⟩ (.int .i64 v)) b o len cap (a + 5 + 1 + 1) ∧ But b w (w3.setCell ⟨w2.heap.size, 2, none⟩ (.int .i64 v))) := ⟨Src.setNew H.out S3 T3 (by omega) _ _, T3.setNew (by omega) _ _⟩
    clear hS3 hT3 K2 S3 T3
    go_wp2
    refine bodyPost_ret (v := .agg #[.int .i64 key, .int .i64 1, .int .i64 v]) (by simp [results, Try.results59, go_sem, r0, r1, r2]) rfl ⟨key, 1, v, a + 5 + 1 + 1, rfl, by omega, ?_, ?_⟩
    · have A1 := Src.setNew H.out S4.out.1 S4.out.2 (Nat.le_refl _) 0 (.int .i64 key)
      have T1 := S4.out.2.setNew (Nat.le_refl _) 0 (.int .i64 key)
      have A2 := Src.setNew H.out A1 T1 (Nat.le_refl _) 1 (.int .i64 1)
      have T2 := T1.setNew (Nat.le_refl _) 1 (.int .i64 1)
      exact Src.setNew H.out A2 T2 (Nat.le_refl _) 2 (.int .i64 v)
    · exact ((S4.out.2.setNew (Nat.le_refl _) 0 _).setNew (Nat.le_refl _) 1 _).setNew (Nat.le_refl _) 2 _
  · have d : (kd == 1) = false := beq_eq_false_iff_ne.2 hk
    obtain ⟨⟨c0, c1, c2⟩, _⟩ := (((K2.out.1.set0 (.int .i64 key)).set1 (.int .i64 kd)).set2 (.int .i64 0)).alloc (.cells #[.int .i64 key, .int .i64 kd, .int .i64 0] 35)
    have S4 : Hid (Src w2 b o len cap (a + 5 + 1) ∧ But b w w2) := K2.out.2
    obtain ⟨⟨r0, r1, r2⟩, fr0, fr1, fr2⟩ := K2.out.1
    have hlr := World.block_lt_of_cell? w2 _ r0
    clear K2 hk hkd
    go_wp2
    refine bodyPost_ret (v := .agg #[.int .i64 key, .int .i64 kd, .int .i64 0]) (by simp [results, Try.results59, go_sem, c0, c1, c2]) rfl ⟨key, kd, 0, a + 5 + 1, rfl, by omega, ?_, ?_⟩
    · have A1 := Src.setNew H.out S4.out.1 S4.out.2 (Nat.le_refl _) 0 (.int .i64 key)
      have T1 := S4.out.2.setNew (Nat.le_refl _) 0 (.int .i64 key)
      have A2 := Src.setNew H.out A1 T1 (Nat.le_refl _) 1 (.int .i64 kd)
      have T2 := T1.setNew (Nat.le_refl _) 1 (.int .i64 kd)
      exact (Src.setNew H.out A2 T2 (Nat.le_refl _) 2 (.int .i64 0)).alloc _
    · exact (((S4.out.2.setNew (Nat.le_refl _) 0 _).setNew (Nat.le_refl _) 1 _).setNew (Nat.le_refl _) 2 _).alloc _
set_option maxRecDepth 100000 in
set_option maxHeartbeats 2000000 in
theorem l8Items_any (w : World) (b : Nat) (o : Option Addr) (len cap : Nat) (a : Int) (h : Src w b o len cap a) (ha : a ≤ 500000) (hl : len ≤ 1048576) :
    Calls Try.prog 38 #[.pointer (some ⟨b, 0, none⟩)] w fun e w' => ∃ (n : Nat) (ao : Option Addr) (cp : Nat) (a1 : Int), e = .returned (.slice ao n cp) ∧ n ≤ 3 ∧ a1 ≤ a + 40 ∧ Draw w b o len cap 35 3 n (.slice ao n cp) a1 w' := by
  have H : Hid (Src w b o len cap a) := h
  have hbl := h.lt
  clear h
  obtain ⟨i0, hi, hz0, hz1, hz2⟩ := info_parts infoz_Item
  have D0 : Hid (Draw w b o len cap 35 3 0 (.slice (some ⟨w.heap.size, 0, none⟩) 0 0) a (w.alloc (.cells #[] 35))) := ⟨⟨[], OwnM.lit0 _ _ _ _ rfl⟩, H.out.alloc _, (But.refl _ _).alloc _⟩
  go_enter Try.func38, Try.ntmps38
  go_wp2_with fail
  refine (l1Next_any _ b o len cap a 4 D0.out.src (by omega) hl).mono ?_
  rintro e w1 ⟨r, rfl, p0, p1, hS1, hT1⟩
  have p2 : r < 4 := p1 (by omega)
  obtain ⟨k0, rfl⟩ : ∃ k : Nat, r = k := ⟨r.toNat, by omega⟩
  have D1 : Hid (Draw w b o len cap 35 3 0 (.slice (some ⟨w.heap.size, 0, none⟩) 0 0) (a + 1) w1) := ⟨⟨[], OwnM.but (OwnM.lit0 w w.heap.size 35 3 rfl) hT1 hbl⟩, hS1, D0.out.but.trans hT1⟩
  clear hS1 hT1 D0 p0 p1
  go_wp2
  go_loopw [3, 4] (fun v k wr => ∃ (n z : Nat) (ao : Option Addr) (cp : Nat) (a1 : Int), v = .slice ao n cp ∧ k = .int .i64 z ∧ n + z ≤ 3 ∧ a1 + 10 * z ≤ a + 40 ∧ Hid (Draw w b o len cap 35 3 n (.slice ao n cp) a1 wr)) (fun _ k _ => (intOf k).toNat)
  case atStart => exact ⟨0, k0, _, _, a + 1, rfl, rfl, by omega, by omega, D1⟩
  case round =>
    clear D1
    obtain ⟨n, z, ao, cp, a1, rfl, rfl, hnz, haz, HD⟩ := hrel
    by_cases hz : 0 < z
    case neg =>
      obtain rfl : z = 0 := by omega
      go_wp2
      go_ret
      exact ⟨n, ao, cp, a1, rfl, by omega, by omega, HD.out⟩
    have dz : decide (0 < z) = true := decide_eq_true hz
    have hwz : IntKind.i64.wrap ((z : Int) - 1) = ((z - 1 : Nat) : Int) := by simp [IntKind.wrap, IntKind.bits, IntKind.signed]; omega
    go_wp2_with fail
    refine (l8DrawItem_any _ b o len cap a1 HD.out.src (by omega) hl).mono ?_
    rintro e w2 ⟨x0, x1, x2, a2, rfl, ha2, hS2, hT2⟩
    obtain ⟨L, hL⟩ := HD.out.own
    obtain ⟨r, hr⟩ : ∃ r, hasI (fun p => L.getD p 0) x0 n = r := ⟨_, rfl⟩
    have HH : Hid (hasI (fun p => L.getD p 0) x0 n = r) := hr
    have O2 : Hid (OwnM (w2.alloc (.cells #[.int .i64 x0, .int .i64 x1, .int .i64 x2] 35)) w.heap.size 35 3 (.slice ao n cp) n L) := (hL.but hT2 hbl).later (below_alloc _ _)
    have S2 : Hid (Src (w2.alloc (.cells #[.int .i64 x0, .int .i64 x1, .int .i64 x2] 35)) b o len cap a2 ∧ But b w (w2.alloc (.cells #[.int .i64 x0, .int .i64 x1, .int .i64 x2] 35))) := ⟨hS2.alloc _, (HD.out.but.trans hT2).alloc _⟩
    have hsz : w.heap.size ≤ w2.heap.size := (HD.out.but.trans hT2).size
    clear hL hS2 hT2 HD hr
    go_wp2_with fail
    refine (l8Has_is _ w.heap.size n _ x0 r HH.out _ O2.out.rowL.1 (by omega)).mono ?_
    rintro e w9 ⟨rfl, hw9⟩
    subst hw9
    cases r with
    | true =>
      go_wp2
      go_roundw
      case rel => exact ⟨n, z - 1, ao, cp, a2, rfl, by go_num, by omega, by omega, ⟨⟨L, O2.out⟩, S2.out.1, S2.out.2⟩⟩
      case measure => simp [intOf]; omega
    | false =>
      go_wp2_with (at_builtin; refine wpList_appX 35 i0 (.agg #[.int .i64 0, .int .i64 0, .int .i64 0]) 3 24 rfl _ _ 25 rfl Try.underlying25 hi hz0 hz1 hz2 rfl (by omega) (by omega) _ w.heap.size n L (.slice ao n cp) rfl (O2.out.later (below_alloc _ _)) 0 1 (fun p => [x0, x1, x2].getD p 0) _ rfl (row_litT _ x0 x1 x2 _ _ (by simp)) (by omega) (by simp; omega) ?_; intro ao3 cp3 w3 O3 G3 _)
      have K3 := Src.keepT H.out (S2.out.1.alloc (.cells #[.int .i64 x0, .int .i64 x1, .int .i64 x2] 35)) (S2.out.2.alloc _) G3 (fun r e => (O2.out.block r e).1)
      have D3 : Hid (Draw w b o len cap 35 3 (n + 1) (.slice ao3 (n + 1) cp3) a2 w3) := ⟨⟨_, O3⟩, K3.1, K3.2⟩
      clear O3 G3 K3 O2 S2
      go_wp2
      go_roundw
      case rel => exact ⟨n + 1, z - 1, ao3, cp3, a2, rfl, by go_num, by omega, by omega, D3⟩
      case measure => simp [intOf]; omega
theorem Row.turnedC {w w' : World} {b B m n : Nat} {F : Nat → Int} {v : Value} (h : Row w B m n F v) (hT : But b w w') (hb : b < B) : Row w' B m n F v := by
  rcases Nat.eq_zero_or_pos n with e | e
  · subst e
    obtain ⟨ao, cp, rfl, _⟩ := h
    exact ⟨ao, cp, rfl, fun q => absurd q (Nat.lt_irrefl 0)⟩
  · exact h.kept hT.size (fun k hk hlt => hT.block k hlt (fun e' => by have := Option.some.inj e'; have := (h.lt e k hk).1; omega))
/-- What was drawn so far: the source at block b, a list of keys and a row of items behind it. -/
structure Dr (w1 : World) (b : Nat) (o : Option Addr) (len cap : Nat) (nr n : Nat) (yr yw : Value) (a : Int) (x : World) : Prop where
  src : Src x b o len cap a
  but : But b w1 x
  rr : ∃ R, Row x w1.heap.size 1 nr R yr
  ri : ∃ F, Row x w1.heap.size 3 n F yw
theorem Dr.step {w1 : World} {b : Nat} {o : Option Addr} {len cap : Nat} {nr n : Nat} {yr yw : Value} {a a' : Int} {x x' : World} (h : Dr w1 b o len cap nr n yr yw a x) (hb : b < w1.heap.size) (hT : But b x x') (hS : Src x' b o len cap a') : Dr w1 b o len cap nr n yr yw a' x' := by
  obtain ⟨R, hR⟩ := h.rr
  obtain ⟨F, hF⟩ := h.ri
  exact ⟨hS, h.but.trans hT, ⟨R, hR.turnedC hT hb⟩, ⟨F, hF.turnedC hT hb⟩⟩
theorem Dr.alloc {w1 : World} {b : Nat} {o : Option Addr} {len cap : Nat} {nr n : Nat} {yr yw : Value} {a : Int} {x : World} (h : Dr w1 b o len cap nr n yr yw a x) (ob : Obj) : Dr w1 b o len cap nr n yr yw a (x.alloc ob) := by
  obtain ⟨R, hR⟩ := h.rr
  obtain ⟨F, hF⟩ := h.ri
  exact ⟨h.src.alloc _, h.but.alloc _, ⟨R, hR.alloc _⟩, ⟨F, hF.alloc _⟩⟩
/-- The four that are drawn. -/
def DrawnT (w : World) (e : Ending) (w' : World) : Prop := ∃ (s u : Int) (nr n : Nat) (R F : Nat → Int) (yr yw : Value), e = .returned (.tuple #[.int .i64 s, .int .i64 u, yr, yw]) ∧ nr ≤ 13 ∧ n ≤ 4 ∧ Row w' w.heap.size 1 nr R yr ∧ Row w' w.heap.size 3 n F yw ∧ Below w.heap.size w w'
theorem madeCells_i64 (n p : Nat) (h : p < n * 1) : (madeCells #[.int .i64 0] (n * 1))[p]? = some (.int .i64 0) := by
  have hs : (madeCells #[Value.int .i64 0] (n * 1)).size = n * 1 := size_madeCells _ _
  rw [Array.getElem?_eq_getElem (by omega)]
  simp [madeCells, Nat.mod_one]
theorem row_made (w : World) (n : Nat) (t : TypeId) {B : Nat} (hB : B ≤ w.heap.size) : Row (w.alloc (.cells (madeCells #[.int .i64 0] (n * 1)) t)) B 1 n (fun _ => 0) (.slice (some ⟨w.heap.size, 0, none⟩) n n) := by
  refine ⟨_, _, rfl, fun _ => ⟨w.heap.size, 0, rfl, hB, by simp, fun p hp => ?_⟩⟩
  rw [Nat.zero_add, World.cell?_alloc_mark]
  exact madeCells_i64 n p hp
set_option maxRecDepth 100000 in
set_option maxHeartbeats 4000000 in
theorem drawNewTxn_any (w : World) (o : Option Addr) (len cap : Nat) (h : Code w o len) (hl : len ≤ 1048576) :
    Calls Try.prog 10 #[.slice o len cap] w (DrawnT w) := by
  have H : Hid (Code w o len) := h
  clear h
  obtain ⟨i0, hi, hz0, hz1, hz2⟩ := info_parts info_i64T
  obtain ⟨i1, hi1, hz01, hz11, hz21⟩ := info_parts infoz_Item
  have hmk : ∀ w : World, (Instr.makeSlice 24 (.int .i64 13) (.int .i64 13)).run Try.prog w = .ok (.slice (some ⟨w.heap.size, 0, none⟩) 13 13) (w.alloc (.cells (madeCells #[.int .i64 0] 13) 2)) := make_rowT Try.underlying24 info_i64T 13 (by omega) (by omega)
  go_enter Try.func10, Try.ntmps10
  go_wp2_with fail
  refine (l1Source_any _ o len cap H.out).mono ?_
  rintro e w1 ⟨rfl, hS, hb, hz⟩
  have S1 : Hid (Src w1 w.heap.size o len cap 0) := hS
  have B1 : Hid (Below w.heap.size w w1) := hb
  have hbl : w.heap.size < w1.heap.size := by omega
  clear hS hb
  go_wp2_with fail
  refine (l8Reads_any _ w.heap.size o len cap 0 S1.out (by omega) hl).mono ?_
  rintro e w2 ⟨nr, ar, cr, a1, rfl, hnr, ha1, D2⟩
  have D2 : Hid (Draw w1 w.heap.size o len cap 2 1 nr (.slice ar nr cr) a1 w2) := D2
  have hp1 := D2.out.src.pos
  go_wp2_with fail
  refine (l8Items_any _ w.heap.size o len cap a1 D2.out.src (by omega) hl).mono ?_
  rintro e w3 ⟨n, ao, cp, a2, rfl, hn, ha2, D3⟩
  have D3 : Hid (Draw w2 w.heap.size o len cap 35 3 n (.slice ao n cp) a2 w3) := D3
  obtain ⟨L, hL⟩ := D2.out.own
  obtain ⟨L2, hL2⟩ := D3.out.own
  have hp2 := D3.out.src.pos
  have hlt2 : Hid (w1.heap.size ≤ w2.heap.size) := D2.out.but.size
  have R3 : Hid (OwnM w3 w1.heap.size 2 1 (.slice ar nr cr) nr L) := hL.but D3.out.but hbl
  have LR : Hid (∀ k, (Value.slice ar nr cr).ownBlock = some k → k < w2.heap.size) := fun k hk => (hL.block k hk).2
  have I3 : Hid (OwnM w3 w2.heap.size 35 3 (.slice ao n cp) n L2) := hL2
  have T3 : Hid (But w.heap.size w1 w3) := D2.out.but.trans D3.out.but
  have S3 : Hid (Src w3 w.heap.size o len cap a2) := D3.out.src
  have HZ3 : Hid (w2.heap.size ≤ w3.heap.size) := D3.out.but.size
  clear hL hL2 D2 D3
  go_wp2_with fail
  refine (l1Next_any _ w.heap.size o len cap a2 12 S3.out (by omega) hl).mono ?_
  rintro e w4 ⟨q, rfl, q0, q1, hS, hT⟩
  have q2 : q < 12 := q1 (by omega)
  have R4 : Hid (OwnM w4 w1.heap.size 2 1 (.slice ar nr cr) nr L) := R3.out.but hT hbl
  have I4 : Hid (OwnM w4 w2.heap.size 35 3 (.slice ao n cp) n L2) := I3.out.but hT (by have := hlt2.out; omega)
  have T4 : Hid (But w.heap.size w1 w4) := T3.out.trans hT
  have S4 : Hid (Src w4 w.heap.size o len cap (a2 + 1)) := hS
  have HZ4 : Hid (w2.heap.size ≤ w4.heap.size) := Nat.le_trans HZ3.out hT.size
  clear hS hT R3 I3 T3 S3 q1
  by_cases h0 : q = 0
  · subst h0
    go_wp2_with fail
    refine (l1Bent_any _ w.heap.size o len cap (a2 + 1) S4.out (by omega) hl).mono ?_
    rintro e w5 ⟨key, rfl, _, _, hS, hT⟩
    have R5 : Hid (OwnM w5 w1.heap.size 2 1 (.slice ar nr cr) nr L) := R4.out.but hT hbl
    have I5 : Hid (OwnM w5 w2.heap.size 35 3 (.slice ao n cp) n L2) := I4.out.but hT (by have := hlt2.out; omega)
    have T5 : Hid (But w.heap.size w1 w5) := T4.out.trans hT
    have S5 : Hid (Src w5 w.heap.size o len cap (a2 + 1 + 17)) := hS
    have hsz : w1.heap.size ≤ w5.heap.size := T5.out.size
    clear hS hT R4 I4 T4 S4
    go_wp2_with (at_builtin; refine wpList_appX 2 i0 (.int .i64 0) 1 8 rfl _ _ 24 rfl Try.underlying24 hi hz0 hz1 hz2 rfl (by omega) (by omega) _ w1.heap.size nr L (.slice ar nr cr) rfl (R5.out.later (below_alloc _ _)) 0 1 (fun p => [key].getD p 0) _ rfl (row_lit1 _ key _ _ (by simp)) (by omega) (by simp; omega) ?_; intro ao6 cp6 w6 O6 G6 _)
    have K6 := Src.keepT S1.out (S5.out.alloc (.cells #[.int .i64 key] 2)) (T5.out.alloc _) G6 (fun r e => (R5.out.block r e).1)
    have D : Hid (Dr w1 w.heap.size o len cap (nr + 1) n (.slice ao6 (nr + 1) cp6) (.slice ao n cp) (a2 + 1 + 17) w6) := ⟨K6.1, K6.2, ⟨_, O6.rowL.1⟩, ⟨_, ((I5.out.rowL.1.alloc _).turned G6 (fun h0 k hk e => by have := LR.out k e.symm; have := (I5.out.block k hk).1; omega)).mono hlt2.out⟩⟩
    clear O6 G6 K6 R5 I5 T5 S5
    go_wp2_with fail
    refine (l1Next_any _ w.heap.size o len cap (a2 + 1 + 17) 50 D.out.src (by omega) hl).mono ?_
    rintro e x1 ⟨t1, rfl, p10, p11, hS, hT⟩
    have p12 : t1 < 50 := p11 (by omega)
    have D1 : Hid (Dr w1 w.heap.size o len cap (nr + 1) n (.slice ao6 (nr + 1) cp6) (.slice ao n cp) ((a2 + 1 + 17) + 1) x1) := D.out.step hbl hT hS
    have hw1 : IntKind.i64.wrap (1 + t1) = 1 + t1 := by simp [IntKind.wrap, IntKind.bits, IntKind.signed]; omega
    clear hS hT D p11
    go_wp2_with fail
    refine (l1Next_any _ w.heap.size o len cap ((a2 + 1 + 17) + 1) 50 D1.out.src (by omega) hl).mono ?_
    rintro e x2 ⟨t2, rfl, p20, p21, hS, hT⟩
    have p22 : t2 < 50 := p21 (by omega)
    have D2 : Hid (Dr w1 w.heap.size o len cap (nr + 1) n (.slice ao6 (nr + 1) cp6) (.slice ao n cp) ((a2 + 1 + 17) + 1 + 1) x2) := D1.out.step hbl hT hS
    have hw2 : IntKind.i64.wrap (1 + t2) = 1 + t2 := by simp [IntKind.wrap, IntKind.bits, IntKind.signed]; omega
    clear hS hT D1 p21
    have hI : Hid (Ints (x2.alloc (.cells #[.int .i64 (1 + t1), .int .i64 (1 + t2), .int .i64 0] 2)) x2.heap.size (.slice (some ⟨x2.heap.size, 0, none⟩) 3 3) [1 + t1, 1 + t2, 0]) := World.ownsRow_lit x2 #[.int .i64 (1 + t1), .int .i64 (1 + t2), .int .i64 0] 3 (Nat.le_refl _) (by decide) rfl
    go_wp2_with fail
    refine (l1Pick_any _ w.heap.size o len cap ((a2 + 1 + 17) + 1 + 1) _ x2.heap.size [1 + t1, 1 + t2, 0] (D2.out.src.alloc _) (by omega) hl hI.out D2.out.src.lt (by simp) (by simp)).mono ?_
    rintro e x3 ⟨s, rfl, _, hS, hT⟩
    have D3 : Hid (Dr w1 w.heap.size o len cap (nr + 1) n (.slice ao6 (nr + 1) cp6) (.slice ao n cp) ((a2 + 1 + 17) + 1 + 1 + 1) x3) := (D2.out.alloc _).step hbl hT hS
    clear hS hT D2 hI
    go_wp2_with fail
    refine (l1Next_any _ w.heap.size o len cap ((a2 + 1 + 17) + 1 + 1 + 1) 99 D3.out.src (by omega) hl).mono ?_
    rintro e x4 ⟨t3, rfl, _, _, hS, hT⟩
    have D4 : Hid (Dr w1 w.heap.size o len cap (nr + 1) n (.slice ao6 (nr + 1) cp6) (.slice ao n cp) ((a2 + 1 + 17) + 1 + 1 + 1 + 1) x4) := D3.out.step hbl hT hS
    clear hS hT D3
    go_wp2_with fail
    refine (l1Next_any _ w.heap.size o len cap ((a2 + 1 + 17) + 1 + 1 + 1 + 1) 99 D4.out.src (by omega) hl).mono ?_
    rintro e x5 ⟨t4, rfl, _, _, hS, hT⟩
    have D5 : Hid (Dr w1 w.heap.size o len cap (nr + 1) n (.slice ao6 (nr + 1) cp6) (.slice ao n cp) ((a2 + 1 + 17) + 1 + 1 + 1 + 1 + 1) x5) := D4.out.step hbl hT hS
    clear hS hT D4
    have hI : Hid (Ints (x5.alloc (.cells #[.int .i64 t3, .int .i64 t4, .int .i64 (-1)] 2)) x5.heap.size (.slice (some ⟨x5.heap.size, 0, none⟩) 3 3) [t3, t4, -1]) := World.ownsRow_lit x5 #[.int .i64 t3, .int .i64 t4, .int .i64 (-1)] 3 (Nat.le_refl _) (by decide) rfl
    go_wp2_with fail
    refine (l1Pick_any _ w.heap.size o len cap ((a2 + 1 + 17) + 1 + 1 + 1 + 1 + 1) _ x5.heap.size [t3, t4, -1] (D5.out.src.alloc _) (by omega) hl hI.out D5.out.src.lt (by simp) (by simp)).mono ?_
    rintro e x6 ⟨u, rfl, _, hS, hT⟩
    have D6 : Hid (Dr w1 w.heap.size o len cap (nr + 1) n (.slice ao6 (nr + 1) cp6) (.slice ao n cp) ((a2 + 1 + 17) + 1 + 1 + 1 + 1 + 1 + 1) x6) := (D5.out.alloc _).step hbl hT hS
    clear hS hT D5 hI
    go_wp2
    obtain ⟨R, hR⟩ := D6.out.rr
    obtain ⟨F, hF⟩ := D6.out.ri
    refine bodyPost_ret (v := .tuple #[.int .i64 s, .int .i64 u, (.slice ao6 (nr + 1) cp6), (.slice ao n cp)]) (by simp [results, Try.results10, go_sem]) rfl ?_
    exact ⟨s, u, _, _, R, F, _, _, rfl, by omega, by omega, hR.mono (by omega), hF.mono (by omega), Below.but B1.out D6.out.but B1.out.size (Nat.le_refl _)⟩
  have d0 : (q == 0) = false := beq_eq_false_iff_ne.2 h0
  by_cases h1 : q = 1
  · subst h1
    go_wp2_with fail
    refine (l1Bent_any _ w.heap.size o len cap (a2 + 1) S4.out (by omega) hl).mono ?_
    rintro e w5 ⟨key, rfl, _, _, hS, hT⟩
    have R5 : Hid (OwnM w5 w1.heap.size 2 1 (.slice ar nr cr) nr L) := R4.out.but hT hbl
    have I5 : Hid (OwnM w5 w2.heap.size 35 3 (.slice ao n cp) n L2) := I4.out.but hT (by have := hlt2.out; omega)
    have T5 : Hid (But w.heap.size w1 w5) := T4.out.trans hT
    have S5 : Hid (Src w5 w.heap.size o len cap (a2 + 1 + 17)) := hS
    have HZ5 : Hid (w2.heap.size ≤ w5.heap.size) := Nat.le_trans HZ4.out hT.size
    clear hS hT R4 I4 T4 S4
    have hI : Hid (Ints (w5.alloc (.cells #[.int .i64 1, .int .i64 2, .int .i64 4] 2)) w5.heap.size (.slice (some ⟨w5.heap.size, 0, none⟩) 3 3) [1, 2, 4]) := World.ownsRow_lit w5 #[.int .i64 1, .int .i64 2, .int .i64 4] 3 (Nat.le_refl _) (by decide) rfl
    go_wp2_with fail
    refine (l1Pick_any _ w.heap.size o len cap (a2 + 1 + 17) _ w5.heap.size [1, 2, 4] (S5.out.alloc _) (by omega) hl hI.out S5.out.lt (by simp) (by simp)).mono ?_
    rintro e w6 ⟨kd, rfl, _, hS, hT⟩
    have R6 : Hid (OwnM w6 w1.heap.size 2 1 (.slice ar nr cr) nr L) := (R5.out.later (below_alloc _ _)).but hT hbl
    have I6 : Hid (OwnM w6 w2.heap.size 35 3 (.slice ao n cp) n L2) := (I5.out.later (below_alloc _ _)).but hT (by have := hlt2.out; omega)
    have T6 : Hid (But w.heap.size w1 w6) := (T5.out.alloc _).trans hT
    have S6 : Hid (Src w6 w.heap.size o len cap (a2 + 1 + 17 + 1)) := hS
    have hsz : w2.heap.size ≤ w6.heap.size := by
      have h1 := hT.size
      have h2 := I5.out
      have h3 : w2.heap.size ≤ w5.heap.size := HZ5.out
      simp at h1
      omega
    clear hS hT R5 I5 T5 S5 hI
    go_wp2_with (at_builtin; refine wpList_appX 35 i1 (.agg #[.int .i64 0, .int .i64 0, .int .i64 0]) 3 24 rfl _ _ 25 rfl Try.underlying25 hi1 hz01 hz11 hz21 rfl (by omega) (by omega) _ w2.heap.size n L2 (.slice ao n cp) rfl (I6.out.later (below_alloc _ _)) 0 1 (fun p => [key, kd, 5].getD p 0) _ rfl (row_litT _ key kd 5 _ _ (by simp)) (by omega) (by simp; omega) ?_; intro ao7 cp7 w7 O7 G7 _)
    have K7 := Src.keepT S1.out (S6.out.alloc (.cells #[.int .i64 key, .int .i64 kd, .int .i64 5] 35)) (T6.out.alloc _) G7 (fun r e => by have := (I6.out.block r e).1; have := hlt2.out; omega)
    have D : Hid (Dr w1 w.heap.size o len cap nr (n + 1) (.slice ar nr cr) (.slice ao7 (n + 1) cp7) (a2 + 1 + 17 + 1) w7) := ⟨K7.1, K7.2, ⟨_, (R6.out.rowL.1.alloc _).turned G7 (fun h0 k hk e => by have := LR.out k hk; have := (I6.out.block k e.symm).1; omega)⟩, ⟨_, O7.rowL.1.mono hlt2.out⟩⟩
    clear O7 G7 K7 R6 I6 T6 S6
    go_wp2_with fail
    refine (l1Next_any _ w.heap.size o len cap (a2 + 1 + 17 + 1) 50 D.out.src (by omega) hl).mono ?_
    rintro e x1 ⟨t1, rfl, p10, p11, hS, hT⟩
    have p12 : t1 < 50 := p11 (by omega)
    have D1 : Hid (Dr w1 w.heap.size o len cap nr (n + 1) (.slice ar nr cr) (.slice ao7 (n + 1) cp7) ((a2 + 1 + 17 + 1) + 1) x1) := D.out.step hbl hT hS
    have hw1 : IntKind.i64.wrap (1 + t1) = 1 + t1 := by simp [IntKind.wrap, IntKind.bits, IntKind.signed]; omega
    clear hS hT D p11
    go_wp2_with fail
    refine (l1Next_any _ w.heap.size o len cap ((a2 + 1 + 17 + 1) + 1) 50 D1.out.src (by omega) hl).mono ?_
    rintro e x2 ⟨t2, rfl, p20, p21, hS, hT⟩
    have p22 : t2 < 50 := p21 (by omega)
    have D2 : Hid (Dr w1 w.heap.size o len cap nr (n + 1) (.slice ar nr cr) (.slice ao7 (n + 1) cp7) ((a2 + 1 + 17 + 1) + 1 + 1) x2) := D1.out.step hbl hT hS
    have hw2 : IntKind.i64.wrap (1 + t2) = 1 + t2 := by simp [IntKind.wrap, IntKind.bits, IntKind.signed]; omega
    clear hS hT D1 p21
    have hI : Hid (Ints (x2.alloc (.cells #[.int .i64 (1 + t1), .int .i64 (1 + t2), .int .i64 0] 2)) x2.heap.size (.slice (some ⟨x2.heap.size, 0, none⟩) 3 3) [1 + t1, 1 + t2, 0]) := World.ownsRow_lit x2 #[.int .i64 (1 + t1), .int .i64 (1 + t2), .int .i64 0] 3 (Nat.le_refl _) (by decide) rfl
    go_wp2_with fail
    refine (l1Pick_any _ w.heap.size o len cap ((a2 + 1 + 17 + 1) + 1 + 1) _ x2.heap.size [1 + t1, 1 + t2, 0] (D2.out.src.alloc _) (by omega) hl hI.out D2.out.src.lt (by simp) (by simp)).mono ?_
    rintro e x3 ⟨s, rfl, _, hS, hT⟩
    have D3 : Hid (Dr w1 w.heap.size o len cap nr (n + 1) (.slice ar nr cr) (.slice ao7 (n + 1) cp7) ((a2 + 1 + 17 + 1) + 1 + 1 + 1) x3) := (D2.out.alloc _).step hbl hT hS
    clear hS hT D2 hI
    go_wp2_with fail
    refine (l1Next_any _ w.heap.size o len cap ((a2 + 1 + 17 + 1) + 1 + 1 + 1) 99 D3.out.src (by omega) hl).mono ?_
    rintro e x4 ⟨t3, rfl, _, _, hS, hT⟩
    have D4 : Hid (Dr w1 w.heap.size o len cap nr (n + 1) (.slice ar nr cr) (.slice ao7 (n + 1) cp7) ((a2 + 1 + 17 + 1) + 1 + 1 + 1 + 1) x4) := D3.out.step hbl hT hS
    clear hS hT D3
    go_wp2_with fail
    refine (l1Next_any _ w.heap.size o len cap ((a2 + 1 + 17 + 1) + 1 + 1 + 1 + 1) 99 D4.out.src (by omega) hl).mono ?_
    rintro e x5 ⟨t4, rfl, _, _, hS, hT⟩
    have D5 : Hid (Dr w1 w.heap.size o len cap nr (n + 1) (.slice ar nr cr) (.slice ao7 (n + 1) cp7) ((a2 + 1 + 17 + 1) + 1 + 1 + 1 + 1 + 1) x5) := D4.out.step hbl hT hS
    clear hS hT D4
    have hI : Hid (Ints (x5.alloc (.cells #[.int .i64 t3, .int .i64 t4, .int .i64 (-1)] 2)) x5.heap.size (.slice (some ⟨x5.heap.size, 0, none⟩) 3 3) [t3, t4, -1]) := World.ownsRow_lit x5 #[.int .i64 t3, .int .i64 t4, .int .i64 (-1)] 3 (Nat.le_refl _) (by decide) rfl
    go_wp2_with fail
    refine (l1Pick_any _ w.heap.size o len cap ((a2 + 1 + 17 + 1) + 1 + 1 + 1 + 1 + 1) _ x5.heap.size [t3, t4, -1] (D5.out.src.alloc _) (by omega) hl hI.out D5.out.src.lt (by simp) (by simp)).mono ?_
    rintro e x6 ⟨u, rfl, _, hS, hT⟩
    have D6 : Hid (Dr w1 w.heap.size o len cap nr (n + 1) (.slice ar nr cr) (.slice ao7 (n + 1) cp7) ((a2 + 1 + 17 + 1) + 1 + 1 + 1 + 1 + 1 + 1) x6) := (D5.out.alloc _).step hbl hT hS
    clear hS hT D5 hI
    go_wp2
    obtain ⟨R, hR⟩ := D6.out.rr
    obtain ⟨F, hF⟩ := D6.out.ri
    refine bodyPost_ret (v := .tuple #[.int .i64 s, .int .i64 u, (.slice ar nr cr), (.slice ao7 (n + 1) cp7)]) (by simp [results, Try.results10, go_sem]) rfl ?_
    exact ⟨s, u, _, _, R, F, _, _, rfl, by omega, by omega, hR.mono (by omega), hF.mono (by omega), Below.but B1.out D6.out.but B1.out.size (Nat.le_refl _)⟩
  have d1 : (q == 1) = false := beq_eq_false_iff_ne.2 h1
  by_cases h2 : q = 2
  · subst h2
    have D : Hid (Dr w1 w.heap.size o len cap 13 n (.slice (some ⟨w4.heap.size, 0, none⟩) 13 13) (.slice ao n cp) (a2 + 1) (w4.alloc (.cells (madeCells #[.int .i64 0] 13) 2))) := ⟨S4.out.alloc _, T4.out.alloc _, ⟨fun _ => 0, row_made w4 13 2 T4.out.size⟩, ⟨_, (I4.out.rowL.1.alloc _).mono hlt2.out⟩⟩
    clear R4 I4 T4 S4
    go_wp2_with fail
    refine (l1Next_any _ w.heap.size o len cap (a2 + 1) 50 D.out.src (by omega) hl).mono ?_
    rintro e x1 ⟨t1, rfl, p10, p11, hS, hT⟩
    have p12 : t1 < 50 := p11 (by omega)
    have D1 : Hid (Dr w1 w.heap.size o len cap 13 n (.slice (some ⟨w4.heap.size, 0, none⟩) 13 13) (.slice ao n cp) ((a2 + 1) + 1) x1) := D.out.step hbl hT hS
    have hw1 : IntKind.i64.wrap (1 + t1) = 1 + t1 := by simp [IntKind.wrap, IntKind.bits, IntKind.signed]; omega
    clear hS hT D p11
    go_wp2_with fail
    refine (l1Next_any _ w.heap.size o len cap ((a2 + 1) + 1) 50 D1.out.src (by omega) hl).mono ?_
    rintro e x2 ⟨t2, rfl, p20, p21, hS, hT⟩
    have p22 : t2 < 50 := p21 (by omega)
    have D2 : Hid (Dr w1 w.heap.size o len cap 13 n (.slice (some ⟨w4.heap.size, 0, none⟩) 13 13) (.slice ao n cp) ((a2 + 1) + 1 + 1) x2) := D1.out.step hbl hT hS
    have hw2 : IntKind.i64.wrap (1 + t2) = 1 + t2 := by simp [IntKind.wrap, IntKind.bits, IntKind.signed]; omega
    clear hS hT D1 p21
    have hI : Hid (Ints (x2.alloc (.cells #[.int .i64 (1 + t1), .int .i64 (1 + t2), .int .i64 0] 2)) x2.heap.size (.slice (some ⟨x2.heap.size, 0, none⟩) 3 3) [1 + t1, 1 + t2, 0]) := World.ownsRow_lit x2 #[.int .i64 (1 + t1), .int .i64 (1 + t2), .int .i64 0] 3 (Nat.le_refl _) (by decide) rfl
    go_wp2_with fail
    refine (l1Pick_any _ w.heap.size o len cap ((a2 + 1) + 1 + 1) _ x2.heap.size [1 + t1, 1 + t2, 0] (D2.out.src.alloc _) (by omega) hl hI.out D2.out.src.lt (by simp) (by simp)).mono ?_
    rintro e x3 ⟨s, rfl, _, hS, hT⟩
    have D3 : Hid (Dr w1 w.heap.size o len cap 13 n (.slice (some ⟨w4.heap.size, 0, none⟩) 13 13) (.slice ao n cp) ((a2 + 1) + 1 + 1 + 1) x3) := (D2.out.alloc _).step hbl hT hS
    clear hS hT D2 hI
    go_wp2_with fail
    refine (l1Next_any _ w.heap.size o len cap ((a2 + 1) + 1 + 1 + 1) 99 D3.out.src (by omega) hl).mono ?_
    rintro e x4 ⟨t3, rfl, _, _, hS, hT⟩
    have D4 : Hid (Dr w1 w.heap.size o len cap 13 n (.slice (some ⟨w4.heap.size, 0, none⟩) 13 13) (.slice ao n cp) ((a2 + 1) + 1 + 1 + 1 + 1) x4) := D3.out.step hbl hT hS
    clear hS hT D3
    go_wp2_with fail
    refine (l1Next_any _ w.heap.size o len cap ((a2 + 1) + 1 + 1 + 1 + 1) 99 D4.out.src (by omega) hl).mono ?_
    rintro e x5 ⟨t4, rfl, _, _, hS, hT⟩
    have D5 : Hid (Dr w1 w.heap.size o len cap 13 n (.slice (some ⟨w4.heap.size, 0, none⟩) 13 13) (.slice ao n cp) ((a2 + 1) + 1 + 1 + 1 + 1 + 1) x5) := D4.out.step hbl hT hS
    clear hS hT D4
    have hI : Hid (Ints (x5.alloc (.cells #[.int .i64 t3, .int .i64 t4, .int .i64 (-1)] 2)) x5.heap.size (.slice (some ⟨x5.heap.size, 0, none⟩) 3 3) [t3, t4, -1]) := World.ownsRow_lit x5 #[.int .i64 t3, .int .i64 t4, .int .i64 (-1)] 3 (Nat.le_refl _) (by decide) rfl
    go_wp2_with fail
    refine (l1Pick_any _ w.heap.size o len cap ((a2 + 1) + 1 + 1 + 1 + 1 + 1) _ x5.heap.size [t3, t4, -1] (D5.out.src.alloc _) (by omega) hl hI.out D5.out.src.lt (by simp) (by simp)).mono ?_
    rintro e x6 ⟨u, rfl, _, hS, hT⟩
    have D6 : Hid (Dr w1 w.heap.size o len cap 13 n (.slice (some ⟨w4.heap.size, 0, none⟩) 13 13) (.slice ao n cp) ((a2 + 1) + 1 + 1 + 1 + 1 + 1 + 1) x6) := (D5.out.alloc _).step hbl hT hS
    clear hS hT D5 hI
    go_wp2
    obtain ⟨R, hR⟩ := D6.out.rr
    obtain ⟨F, hF⟩ := D6.out.ri
    refine bodyPost_ret (v := .tuple #[.int .i64 s, .int .i64 u, (.slice (some ⟨w4.heap.size, 0, none⟩) 13 13), (.slice ao n cp)]) (by simp [results, Try.results10, go_sem]) rfl ?_
    exact ⟨s, u, _, _, R, F, _, _, rfl, by omega, by omega, hR.mono (by omega), hF.mono (by omega), Below.but B1.out D6.out.but B1.out.size (Nat.le_refl _)⟩
  have d2 : (q == 2) = false := beq_eq_false_iff_ne.2 h2
  have D : Hid (Dr w1 w.heap.size o len cap nr n (.slice ar nr cr) (.slice ao n cp) (a2 + 1) w4) := ⟨S4.out, T4.out, ⟨_, R4.out.rowL.1⟩, ⟨_, I4.out.rowL.1.mono hlt2.out⟩⟩
  clear R4 I4 T4 S4 h0 h1 h2
  go_wp2_with fail
  refine (l1Next_any _ w.heap.size o len cap (a2 + 1) 50 D.out.src (by omega) hl).mono ?_
  rintro e x1 ⟨t1, rfl, p10, p11, hS, hT⟩
  have p12 : t1 < 50 := p11 (by omega)
  have D1 : Hid (Dr w1 w.heap.size o len cap nr n (.slice ar nr cr) (.slice ao n cp) ((a2 + 1) + 1) x1) := D.out.step hbl hT hS
  have hw1 : IntKind.i64.wrap (1 + t1) = 1 + t1 := by simp [IntKind.wrap, IntKind.bits, IntKind.signed]; omega
  clear hS hT D p11
  go_wp2_with fail
  refine (l1Next_any _ w.heap.size o len cap ((a2 + 1) + 1) 50 D1.out.src (by omega) hl).mono ?_
  rintro e x2 ⟨t2, rfl, p20, p21, hS, hT⟩
  have p22 : t2 < 50 := p21 (by omega)
  have D2 : Hid (Dr w1 w.heap.size o len cap nr n (.slice ar nr cr) (.slice ao n cp) ((a2 + 1) + 1 + 1) x2) := D1.out.step hbl hT hS
  have hw2 : IntKind.i64.wrap (1 + t2) = 1 + t2 := by simp [IntKind.wrap, IntKind.bits, IntKind.signed]; omega
  clear hS hT D1 p21
  have hI : Hid (Ints (x2.alloc (.cells #[.int .i64 (1 + t1), .int .i64 (1 + t2), .int .i64 0] 2)) x2.heap.size (.slice (some ⟨x2.heap.size, 0, none⟩) 3 3) [1 + t1, 1 + t2, 0]) := World.ownsRow_lit x2 #[.int .i64 (1 + t1), .int .i64 (1 + t2), .int .i64 0] 3 (Nat.le_refl _) (by decide) rfl
  go_wp2_with fail
  refine (l1Pick_any _ w.heap.size o len cap ((a2 + 1) + 1 + 1) _ x2.heap.size [1 + t1, 1 + t2, 0] (D2.out.src.alloc _) (by omega) hl hI.out D2.out.src.lt (by simp) (by simp)).mono ?_
  rintro e x3 ⟨s, rfl, _, hS, hT⟩
  have D3 : Hid (Dr w1 w.heap.size o len cap nr n (.slice ar nr cr) (.slice ao n cp) ((a2 + 1) + 1 + 1 + 1) x3) := (D2.out.alloc _).step hbl hT hS
  clear hS hT D2 hI
  go_wp2_with fail
  refine (l1Next_any _ w.heap.size o len cap ((a2 + 1) + 1 + 1 + 1) 99 D3.out.src (by omega) hl).mono ?_
  rintro e x4 ⟨t3, rfl, _, _, hS, hT⟩
  have D4 : Hid (Dr w1 w.heap.size o len cap nr n (.slice ar nr cr) (.slice ao n cp) ((a2 + 1) + 1 + 1 + 1 + 1) x4) := D3.out.step hbl hT hS
  clear hS hT D3
  go_wp2_with fail
  refine (l1Next_any _ w.heap.size o len cap ((a2 + 1) + 1 + 1 + 1 + 1) 99 D4.out.src (by omega) hl).mono ?_
  rintro e x5 ⟨t4, rfl, _, _, hS, hT⟩
  have D5 : Hid (Dr w1 w.heap.size o len cap nr n (.slice ar nr cr) (.slice ao n cp) ((a2 + 1) + 1 + 1 + 1 + 1 + 1) x5) := D4.out.step hbl hT hS
  clear hS hT D4
  have hI : Hid (Ints (x5.alloc (.cells #[.int .i64 t3, .int .i64 t4, .int .i64 (-1)] 2)) x5.heap.size (.slice (some ⟨x5.heap.size, 0, none⟩) 3 3) [t3, t4, -1]) := World.ownsRow_lit x5 #[.int .i64 t3, .int .i64 t4, .int .i64 (-1)] 3 (Nat.le_refl _) (by decide) rfl
  go_wp2_with fail
  refine (l1Pick_any _ w.heap.size o len cap ((a2 + 1) + 1 + 1 + 1 + 1 + 1) _ x5.heap.size [t3, t4, -1] (D5.out.src.alloc _) (by omega) hl hI.out D5.out.src.lt (by simp) (by simp)).mono ?_
  rintro e x6 ⟨u, rfl, _, hS, hT⟩
  have D6 : Hid (Dr w1 w.heap.size o len cap nr n (.slice ar nr cr) (.slice ao n cp) ((a2 + 1) + 1 + 1 + 1 + 1 + 1 + 1) x6) := (D5.out.alloc _).step hbl hT hS
  clear hS hT D5 hI
  go_wp2
  obtain ⟨R, hR⟩ := D6.out.rr
  obtain ⟨F, hF⟩ := D6.out.ri
  refine bodyPost_ret (v := .tuple #[.int .i64 s, .int .i64 u, (.slice ar nr cr), (.slice ao n cp)]) (by simp [results, Try.results10, go_sem]) rfl ?_
  exact ⟨s, u, _, _, R, F, _, _, rfl, by omega, by omega, hR.mono (by omega), hF.mono (by omega), Below.but B1.out D6.out.but B1.out.size (Nat.le_refl _)⟩
end Go.Proofs.Ytjimckfkbkfggaa
