/-
  Own text, merged of PlnG, PlnH, FsY, PlnI.
-/
import Derived.Test.YtlkmcnghdfbapaaPk5
namespace Go.Proofs.Ytlkmcnghdfbapaa
open Go.RowKit

set_option maxHeartbeats 1000000 in
theorem l1ChanceP_any (w : World) (b : Nat) (o : Option Addr) (len cap : Nat) (a n : Int) (h : Src w b o len cap a) (ha : a ≤ 1000000) (hl : len ≤ 1048576) :
    Calls Try.prog 13 #[.pointer (some ⟨b, 0, none⟩), .int .i64 n] w fun e w' => ∃ r : Bool, e = .returned (.bool r) ∧ Src w' b o len cap (a + 1) ∧ But b w w' := by
  have HN : Hid (Calls Try.prog 23 #[.pointer (some ⟨b, 0, none⟩), .int .i64 n] w fun e w' => ∃ r : Int, e = .returned (.int .i64 r) ∧ 0 ≤ r ∧ (1 ≤ n → r < n) ∧ Src w' b o len cap (a + 1) ∧ But b w w') := l1Next_any w b o len cap a n h ha hl
  clear h
  go_enter Try.func13, Try.ntmps13
  go_wp2_with fail
  refine HN.out.mono ?_
  rintro e w1 ⟨r, rfl, _, _, hS, hT⟩
  have HR : Hid (Src w1 b o len cap (a + 1) ∧ But b w w1) := ⟨hS, hT⟩
  clear hS hT
  go_wp2
  go_ret
  exact ⟨_, rfl, HR.out⟩
/-- Block b is one that an operation lies in. -/
def OBk (x : World) (b : Nat) : Prop := ∃ old : Array Value, x.heap[b]? = some (.cells old 26 (0, 0)) ∧ old.size = 6
theorem OBk.lt {x : World} {b : Nat} (h : OBk x b) : b < x.heap.size := by
  obtain ⟨old, h, _⟩ := h
  exact (Array.getElem?_eq_some_iff.1 h).1
theorem OBk.kept {x x' : World} {b : Nat} (h : OBk x b) (hb : x'.heap[b]? = x.heap[b]?) : OBk x' b := by
  obtain ⟨old, h, hs⟩ := h
  exact ⟨old, hb.trans h, hs⟩
theorem OBk.later {x x' : World} {b : Nat} (h : OBk x b) (hb : Below x.heap.size x x') : OBk x' b := h.kept (hb.block b h.lt)
theorem OBk.new (w : World) (a0 a1 a2 a3 a4 a5 : Value) : OBk (w.alloc (.cells #[a0, a1, a2, a3, a4, a5] 26)) w.heap.size := ⟨_, heap_alloc_new w _, rfl⟩
theorem step_storeO {ops : Array Oper} {o : Oper} {a : Act} {w : World} {K : Act → World → Prop} {Q : Exit → Act → World → Prop} {E : Prop} (hgd : o.guard = none) (x y : Operand) (ho : o.op = .store 26 x y)
    (g : Nat) (a0 a1 a2 a3 a4 a5 : Value) (hx : a.eval x = .pointer (some ⟨g, 0, none⟩)) (hy : a.eval y = .agg #[a0, a1, a2, a3, a4, a5]) (hP : OBk w g) (h1 : (#[a0, a1, a2, a3, a4, a5] : Array Value).all (·.oneCell') = true)
    (h : K (a.put o.dst undef) (w.setRow g #[a0, a1, a2, a3, a4, a5])) : if Region.wanted o (yielded ops a.tmps) = true then Oper.wp Try.prog o a w K Q else E := by
  have hw : Region.wanted o (yielded ops a.tmps) = true := by simp [Region.wanted, hgd]
  rw [if_pos hw]
  obtain ⟨old, hg, hs⟩ := hP
  exact wp_store_row 26 x y ho g #[a0, a1, a2, a3, a4, a5] hx hy 26 old hg (by kernel_rfl) hs h1 h
theorem OBk.blk {x : World} {b : Nat} (h : OBk x b) (a0 a1 a2 a3 a4 a5 : Value) : Blk6 (x.setRow b #[a0, a1, a2, a3, a4, a5]) b a0 a1 a2 a3 a4 a5 := by
  obtain ⟨old, hg, _⟩ := h
  have e : (x.setRow b #[a0, a1, a2, a3, a4, a5]).heap[b]? = some (.cells #[a0, a1, a2, a3, a4, a5] 26 (0, 0)) := by simp [World.setRow, Array.getElem?_modify, hg]
  refine ⟨⟨?_, ?_, ?_, ?_, ?_, ?_⟩, ?_, ?_, ?_, ?_, ?_, ?_⟩ <;> simp [World.cell?, World.frozen?, e]
theorem Row.rowO {w : World} {B m n g : Nat} {F : Nat → Int} {v : Value} (h : Row w B m n F v) (hg : g < B) (cs : Array Value) : Row (w.setRow g cs) B m n F v := by
  rcases Nat.eq_zero_or_pos n with e | e
  · subst e
    obtain ⟨ao, cp, hv, _⟩ := h
    exact ⟨ao, cp, hv, fun q => absurd q (Nat.lt_irrefl 0)⟩
  · exact h.kept (by rw [size_setRow]; exact Nat.le_refl _) (fun k hk _ => heap_setRow _ _ _ _ (by have := (h.lt e k hk).1; omega))
theorem Row.farG {w : World} {B m n g j : Nat} {F : Nat → Int} {v : Value} (h : Row w B m n F v) (hg : 0 < n → ∀ k, v.ownBlock = some k → k ≠ g) (u : Value) : Row (w.setCell ⟨g, j, none⟩ u) B m n F v := by
  rcases Nat.eq_zero_or_pos n with e | e
  · subst e
    obtain ⟨ao, cp, hv, _⟩ := h
    exact ⟨ao, cp, hv, fun q => absurd q (Nat.lt_irrefl 0)⟩
  · exact h.kept (by simp [World.setCell]) (fun k hk _ => Below.heap_setCell w ⟨g, j, none⟩ u k (hg e k hk))
set_option maxRecDepth 100000 in
set_option maxHeartbeats 4000000 in
theorem drawCompile_any (w : World) (o : Option Addr) (len cap : Nat) (h : Code (w.alloc zeroO) o len) (hl : len ≤ 1048576) :
    Calls Try.prog 5 #[.slice o len cap] w fun e w' => ∃ (m : Nat) (V : Nat → Int) (ao : Option Addr) (cp : Nat) (kd d n td tn v : Int), e = .returned (.tuple #[.slice ao m cp, .agg #[.int .i64 kd, .int .i64 d, .int .i64 n, .int .i64 td, .int .i64 tn, .int .i64 v]]) ∧ m ≤ 401 ∧ Row w' w.heap.size 2 m V (.slice ao m cp) ∧ Below w.heap.size w w' := by
  have H : Hid (Code (w.alloc zeroO) o len) := h
  clear h
  go_enter Try.func5, Try.ntmps5
  go_wp2_with fail
  refine (l1Source_any (w.alloc zeroO) o len cap H.out).mono ?_
  rw [World.size_alloc]
  rintro e w1 ⟨rfl, hS, hb, hz⟩
  have H1 : Hid (Src w1 (w.heap.size + 1) o len cap 0 ∧ Below w.heap.size w w1 ∧ OBk w1 w.heap.size) := ⟨hS, (below_alloc w zeroO).trans (hb.mono (by omega)), (OBk.new w _ _ _ _ _ _).later (by rw [World.size_alloc]; exact hb)⟩
  have hbl : w.heap.size + 1 < w1.heap.size := by omega
  clear hS hb
  go_wp2_with fail
  refine (l13BentView_any _ (w.heap.size + 1) o len cap 0 H1.out.1 (by omega) hl).mono ?_
  rintro e w2 ⟨m, ao, cp, a1, rfl, hm, ha1, ⟨V, hV⟩, hS, hT⟩
  have bt : ∀ {x y : World}, But (w.heap.size + 1) x y → Below w.heap.size w x → Below w.heap.size w y := fun {x y} hT hB => ⟨hT.os.trans hB.os, hT.tape.trans hB.tape, hT.output.trans hB.output, Nat.le_trans hB.size hT.size, fun i hi => (hT.block i (Nat.lt_of_lt_of_le hi hB.size) (fun e => by have := Option.some.inj e; omega)).trans (hB.block i hi)⟩
  have H2 : Hid (Src w2 (w.heap.size + 1) o len cap a1 ∧ Below w.heap.size w w2 ∧ OBk w2 w.heap.size ∧ Row w2 (w.heap.size + 2) 2 m V (.slice ao m cp)) := ⟨hS, bt hT H1.out.2.1, H1.out.2.2.kept (hT.block _ H1.out.2.2.lt (fun e => by have := Option.some.inj e; omega)), hV.mono (by omega)⟩
  have hbk : 0 < m → ∀ k, (Value.slice ao m cp).ownBlock = some k → w.heap.size + 2 ≤ k := fun h0 k hk => (H2.out.2.2.2.lt h0 k hk).1
  have hbl2 : 0 < m → ∀ k, (Value.slice ao m cp).ownBlock = some k → k < w2.heap.size := fun h0 k hk => (H2.out.2.2.2.lt h0 k hk).2
  have hz2 : w.heap.size + 1 < w2.heap.size := H2.out.1.lt
  clear hS hT hV H1
  go_wp2_with fail
  refine (l13Draw_any _ (w.heap.size + 1) o len cap a1 H2.out.1 (by omega) hl).mono ?_
  rintro e w4 ⟨kd, d, n, td, tn, v, a2, rfl, _, ha2, hS, hT⟩
  have hb4 : w.heap.size + 1 < w4.heap.size := Nat.lt_of_lt_of_le H2.out.1.lt hT.size
  have hbl4 : 0 < m → ∀ k, (Value.slice ao m cp).ownBlock = some k → k < w4.heap.size := fun h0 k hk => Nat.lt_of_lt_of_le (hbl2 h0 k hk) hT.size
  have H4 : Hid (Src (w4.alloc (.cells #[.int .i64 kd, .int .i64 d, .int .i64 n, .int .i64 td, .int .i64 tn, .int .i64 v] 26)) (w.heap.size + 1) o len cap a2 ∧ Below w.heap.size w (w4.alloc (.cells #[.int .i64 kd, .int .i64 d, .int .i64 n, .int .i64 td, .int .i64 tn, .int .i64 v] 26)) ∧ OBk (w4.alloc (.cells #[.int .i64 kd, .int .i64 d, .int .i64 n, .int .i64 td, .int .i64 tn, .int .i64 v] 26)) w.heap.size ∧ Row (w4.alloc (.cells #[.int .i64 kd, .int .i64 d, .int .i64 n, .int .i64 td, .int .i64 tn, .int .i64 v] 26)) (w.heap.size + 2) 2 m V (.slice ao m cp) ∧ Blk6 (w4.alloc (.cells #[.int .i64 kd, .int .i64 d, .int .i64 n, .int .i64 td, .int .i64 tn, .int .i64 v] 26)) w4.heap.size (.int .i64 kd) (.int .i64 d) (.int .i64 n) (.int .i64 td) (.int .i64 tn) (.int .i64 v)) :=
    ⟨hS.alloc _, (bt hT H2.out.2.1).alloc (Nat.le_trans H2.out.2.1.size hT.size) _, (H2.out.2.2.1.kept (hT.block _ H2.out.2.2.1.lt (fun e => by have := Option.some.inj e; omega))).later (below_alloc _ _), (H2.out.2.2.2.turnedC hT (by omega)).alloc _, Blk6.new w4 _ _ _ _ _ _ _⟩
  clear hS hT H2
  go_wp2_with fail
  generalize w4.alloc (.cells #[.int .i64 kd, .int .i64 d, .int .i64 n, .int .i64 td, .int .i64 tn, .int .i64 v] 26) = w5 at H4 ⊢
  refine (l1ChanceP_any _ (w.heap.size + 1) o len cap a2 10 H4.out.1 (by omega) hl).mono ?_
  rintro e w6 ⟨r, rfl, hS, hT⟩
  have H6 : Hid (Src w6 (w.heap.size + 1) o len cap (a2 + 1) ∧ Below w.heap.size w w6 ∧ OBk w6 w.heap.size ∧ Row w6 (w.heap.size + 2) 2 m V (.slice ao m cp) ∧ Blk6 w6 w4.heap.size (.int .i64 kd) (.int .i64 d) (.int .i64 n) (.int .i64 td) (.int .i64 tn) (.int .i64 v)) :=
    ⟨hS, bt hT H4.out.2.1, H4.out.2.2.1.kept (hT.block _ H4.out.2.2.1.lt (fun e => by have := Option.some.inj e; omega)), H4.out.2.2.2.1.turnedC hT (by omega), H4.out.2.2.2.2.kept (hT.block _ H4.out.2.2.2.2.lt (fun e => by have := Option.some.inj e; omega))⟩
  clear hS hT H4
  cases r with
  | false =>
    have HE : Hid (Blk6 w6 w4.heap.size (.int .i64 kd) (.int .i64 d) (.int .i64 n) (.int .i64 td) (.int .i64 tn) (.int .i64 v) ∧ OBk w6 w.heap.size ∧ w.heap.size < w4.heap.size ∧ Row w6 (w.heap.size + 2) 2 m V (.slice ao m cp) ∧ Below w.heap.size w w6) := ⟨H6.out.2.2.2.2, H6.out.2.2.1, by omega, H6.out.2.2.2.1, H6.out.2.1⟩
    clear H6
    go_upto_region 6 with fail
    refine wp_region_held_drew (S := fun Z : World => Blk6 Z w4.heap.size (.int .i64 kd) (.int .i64 d) (.int .i64 n) (.int .i64 td) (.int .i64 tn) (.int .i64 v)) (by kernel_rfl) (HE.out.1.later (Below.refl _ _).drew) (fun hS => ?_)
    have HF : Hid (OBk w6.drew w.heap.size ∧ w.heap.size < w4.heap.size ∧ Row w6.drew (w.heap.size + 2) 2 m V (.slice ao m cp) ∧ Below w.heap.size w w6.drew) := ⟨HE.out.2.1.later (Below.refl _ _).drew, HE.out.2.2.1, HE.out.2.2.2.1.later (Below.refl _ _).drew, HE.out.2.2.2.2.drew⟩
    clear HE
    generalize w6.drew = z0 at hS HF ⊢
    refine tkH 0 ?_ hS (fun wx hx => ?_) ?_; rotate_left
    · obtain ⟨⟨hx0, hx1, hx2, hx3, hx4, hx5⟩, _⟩ := hx; go_simp; try with_reducible rfl
    refine tkH 1 ?_ hS (fun wx hx => ?_) ?_; rotate_left
    · obtain ⟨⟨hx0, hx1, hx2, hx3, hx4, hx5⟩, _⟩ := hx; go_simp; try with_reducible rfl
    refine tkH 2 ?_ hS (fun wx hx => ?_) ?_; rotate_left
    · obtain ⟨⟨hx0, hx1, hx2, hx3, hx4, hx5⟩, _⟩ := hx; go_simp; try with_reducible rfl
    refine rdH 3 (fun K hK => ?_)
    refine step_storeO rfl _ _ rfl w.heap.size _ _ _ _ _ _ rfl rfl HF.out.1 (by kernel_rfl) ?_
    have KB : Hid (Blk6 (z0.setRow w.heap.size #[.int .i64 kd, .int .i64 d, .int .i64 n, .int .i64 td, .int .i64 tn, .int .i64 v]) w.heap.size (.int .i64 kd) (.int .i64 d) (.int .i64 n) (.int .i64 td) (.int .i64 tn) (.int .i64 v)) := HF.out.1.blk _ _ _ _ _ _
    have HG : Hid (Row (z0.setRow w.heap.size #[.int .i64 kd, .int .i64 d, .int .i64 n, .int .i64 td, .int .i64 tn, .int .i64 v]) (w.heap.size + 2) 2 m V (.slice ao m cp) ∧ Below w.heap.size w (z0.setRow w.heap.size #[.int .i64 kd, .int .i64 d, .int .i64 n, .int .i64 td, .int .i64 tn, .int .i64 v])) := ⟨HF.out.2.2.1.rowO (by omega) _, below_row HF.out.2.2.2 (Nat.le_refl _) _⟩
    have hS' : Blk6 (z0.setRow w.heap.size #[.int .i64 kd, .int .i64 d, .int .i64 n, .int .i64 td, .int .i64 tn, .int .i64 v]) w4.heap.size (.int .i64 kd) (.int .i64 d) (.int .i64 n) (.int .i64 td) (.int .i64 tn) (.int .i64 v) := hS.kept (heap_setRow _ _ _ _ (by have := HF.out.2.1; omega))
    clear hS HF
    refine hK.out _ _ hS' (fun hS => ?_)
    clear hK K hS' hS
    refine wpAnyH_done (by kernel_rfl) ?_ _
    go_simp
    obtain ⟨⟨k0, k1, k2, k3, k4, k5⟩, _⟩ := KB.out
    go_wp2
    refine bodyPost_ret (v := .tuple #[.slice ao m cp, .agg #[.int .i64 kd, .int .i64 d, .int .i64 n, .int .i64 td, .int .i64 tn, .int .i64 v]]) (by simp [results, Try.results5, go_sem, k0, k1, k2, k3, k4, k5]) rfl ?_
    exact ⟨m, V, ao, cp, _, _, _, _, _, _, rfl, hm, HG.out.1.mono (by omega), HG.out.2⟩
  | true =>
    go_wp2_with fail
    refine (l13Bent_any _ (w.heap.size + 1) o len cap (a2 + 1) H6.out.1 (by omega) hl).mono ?_
    rintro e w7 ⟨kd', d', n', td', tn', v', a3, rfl, _, hS, hT⟩
    have H7 : Hid ((Below w.heap.size w w7 ∧ OBk w7 w.heap.size ∧ Row w7 (w.heap.size + 2) 2 m V (.slice ao m cp)) ∧ Blk6 w7 w4.heap.size (.int .i64 kd) (.int .i64 d) (.int .i64 n) (.int .i64 td) (.int .i64 tn) (.int .i64 v)) :=
      ⟨⟨bt hT H6.out.2.1, H6.out.2.2.1.kept (hT.block _ H6.out.2.2.1.lt (fun e => by have := Option.some.inj e; omega)), H6.out.2.2.2.1.turnedC hT (by omega)⟩, H6.out.2.2.2.2.kept (hT.block _ H6.out.2.2.2.2.lt (fun e => by have := Option.some.inj e; omega))⟩
    clear hS hT H6
    obtain ⟨w8, HY⟩ : ∃ y, Hid (y = ((((((w7.setCell ⟨w4.heap.size, 0, none⟩ (.int .i64 kd')).setCell ⟨w4.heap.size, 1, none⟩ (.int .i64 d')).setCell ⟨w4.heap.size, 2, none⟩ (.int .i64 n')).setCell ⟨w4.heap.size, 3, none⟩ (.int .i64 td')).setCell ⟨w4.heap.size, 4, none⟩ (.int .i64 tn')).setCell ⟨w4.heap.size, 5, none⟩ (.int .i64 v'))) := ⟨_, rfl⟩
    have HE : Hid (Blk6 w8 w4.heap.size (.int .i64 kd') (.int .i64 d') (.int .i64 n') (.int .i64 td') (.int .i64 tn') (.int .i64 v') ∧ OBk w8 w.heap.size ∧ w.heap.size < w4.heap.size ∧ Row w8 (w.heap.size + 2) 2 m V (.slice ao m cp) ∧ Below w.heap.size w w8) := by
      rw [HY.out]
      obtain ⟨⟨k1, k2, k3⟩, k4⟩ := H7.out
      have so : ∀ {y : World} (j : Nat) (u : Value), OBk y w.heap.size → OBk (y.setCell ⟨w4.heap.size, j, none⟩ u) w.heap.size := fun {y} j u q => q.kept (Below.heap_setCell y ⟨w4.heap.size, j, none⟩ u _ (by simp; omega))
      have sb : ∀ {y : World} (j : Nat) (u : Value), Below w.heap.size w y → Below w.heap.size w (y.setCell ⟨w4.heap.size, j, none⟩ u) := fun {y} j u q => q.setCell (by show w.heap.size ≤ w4.heap.size; omega) u
      have sr : ∀ {y : World} (j : Nat) (u : Value), Row y (w.heap.size + 2) 2 m V (.slice ao m cp) → Row (y.setCell ⟨w4.heap.size, j, none⟩ u) (w.heap.size + 2) 2 m V (.slice ao m cp) := fun {y} j u q => q.farG (fun h0 k hk => by have := hbl4 h0 k hk; omega) u
      exact ⟨k4.putAll _ _ _ _ _ _, so _ _ (so _ _ (so _ _ (so _ _ (so _ _ (so _ _ k2))))), by omega, sr _ _ (sr _ _ (sr _ _ (sr _ _ (sr _ _ (sr _ _ k3))))), sb _ _ (sb _ _ (sb _ _ (sb _ _ (sb _ _ (sb _ _ k1)))))⟩
    obtain ⟨⟨z0, z1, z2, z3, z4, z5⟩, f0, f1, f2, f3, f4, f5⟩ := H7.out.2
    go_upto_region 6 with fail
    rw [← HY.out]
    clear z0 z1 z2 z3 z4 z5 f0 f1 f2 f3 f4 f5 H7 HY
    refine wp_region_held_drew (S := fun Z : World => Blk6 Z w4.heap.size (.int .i64 kd') (.int .i64 d') (.int .i64 n') (.int .i64 td') (.int .i64 tn') (.int .i64 v')) (by kernel_rfl) (HE.out.1.later (Below.refl _ _).drew) (fun hS => ?_)
    have HF : Hid (OBk w8.drew w.heap.size ∧ w.heap.size < w4.heap.size ∧ Row w8.drew (w.heap.size + 2) 2 m V (.slice ao m cp) ∧ Below w.heap.size w w8.drew) := ⟨HE.out.2.1.later (Below.refl _ _).drew, HE.out.2.2.1, HE.out.2.2.2.1.later (Below.refl _ _).drew, HE.out.2.2.2.2.drew⟩
    clear HE
    generalize w8.drew = z0 at hS HF ⊢
    refine tkH 0 ?_ hS (fun wx hx => ?_) ?_; rotate_left
    · obtain ⟨⟨hx0, hx1, hx2, hx3, hx4, hx5⟩, _⟩ := hx; go_simp; try with_reducible rfl
    refine tkH 1 ?_ hS (fun wx hx => ?_) ?_; rotate_left
    · obtain ⟨⟨hx0, hx1, hx2, hx3, hx4, hx5⟩, _⟩ := hx; go_simp; try with_reducible rfl
    refine tkH 2 ?_ hS (fun wx hx => ?_) ?_; rotate_left
    · obtain ⟨⟨hx0, hx1, hx2, hx3, hx4, hx5⟩, _⟩ := hx; go_simp; try with_reducible rfl
    refine rdH 3 (fun K hK => ?_)
    refine step_storeO rfl _ _ rfl w.heap.size _ _ _ _ _ _ rfl rfl HF.out.1 (by kernel_rfl) ?_
    have KB : Hid (Blk6 (z0.setRow w.heap.size #[.int .i64 kd', .int .i64 d', .int .i64 n', .int .i64 td', .int .i64 tn', .int .i64 v']) w.heap.size (.int .i64 kd') (.int .i64 d') (.int .i64 n') (.int .i64 td') (.int .i64 tn') (.int .i64 v')) := HF.out.1.blk _ _ _ _ _ _
    have HG : Hid (Row (z0.setRow w.heap.size #[.int .i64 kd', .int .i64 d', .int .i64 n', .int .i64 td', .int .i64 tn', .int .i64 v']) (w.heap.size + 2) 2 m V (.slice ao m cp) ∧ Below w.heap.size w (z0.setRow w.heap.size #[.int .i64 kd', .int .i64 d', .int .i64 n', .int .i64 td', .int .i64 tn', .int .i64 v'])) := ⟨HF.out.2.2.1.rowO (by omega) _, below_row HF.out.2.2.2 (Nat.le_refl _) _⟩
    have hS' : Blk6 (z0.setRow w.heap.size #[.int .i64 kd', .int .i64 d', .int .i64 n', .int .i64 td', .int .i64 tn', .int .i64 v']) w4.heap.size (.int .i64 kd') (.int .i64 d') (.int .i64 n') (.int .i64 td') (.int .i64 tn') (.int .i64 v') := hS.kept (heap_setRow _ _ _ _ (by have := HF.out.2.1; omega))
    clear hS HF
    refine hK.out _ _ hS' (fun hS => ?_)
    clear hK K hS' hS
    refine wpAnyH_done (by kernel_rfl) ?_ _
    go_simp
    obtain ⟨⟨k0, k1, k2, k3, k4, k5⟩, _⟩ := KB.out
    go_wp2
    refine bodyPost_ret (v := .tuple #[.slice ao m cp, .agg #[.int .i64 kd', .int .i64 d', .int .i64 n', .int .i64 td', .int .i64 tn', .int .i64 v']]) (by simp [results, Try.results5, go_sem, k0, k1, k2, k3, k4, k5]) rfl ?_
    exact ⟨m, V, ao, cp, _, _, _, _, _, _, rfl, hm, HG.out.1.mono (by omega), HG.out.2⟩
end Go.Proofs.Ytlkmcnghdfbapaa

namespace Go.Proofs.Ytlkmcnghdfbapaa
open Go.RowKit

set_option maxHeartbeats 400000 in
theorem lwHas_any (v : Value) (B : Nat) (xs : List Int) (x : Int) (r : Bool) (hr : Hid (decide (x ∈ xs) = r)) (w : World) (h : Ints w B v xs) (hl : xs.length ≤ 1000) :
    Calls Try.prog 8 #[v, .int .i64 x] w fun e w' => e = .returned (.bool r) ∧ w' = w := by
  obtain ⟨ao, ca, rfl⟩ := h.form
  have H0 : Hid (Ints w B (.slice ao xs.length ca) xs) := h
  clear h
  go_enter Try.func8, Try.ntmps8
  go_wp2
  go_loop [5] (fun i => ∃ n : Nat, n ≤ xs.length ∧ i = .int .i64 n ∧ Hid (x ∉ xs.take n)) (fun i => xs.length - (intOf i).toNat)
  case atStart => exact ⟨0, Nat.zero_le _, rfl, by unfold Hid; simp⟩
  case round =>
    obtain ⟨n, hn, rfl, hno⟩ := hrel
    by_cases hlt : n < xs.length
    · obtain ⟨g, rfl, _, hc, _⟩ := H0.out.at hlt
      have ht : xs.take (n + 1) = xs.take n ++ [xs[n]] := by rw [List.take_succ_eq_append_getElem hlt]
      by_cases hx : xs[n] = x
      · obtain rfl : r = true := hr.out.symm.trans (decide_eq_true (hx ▸ List.getElem_mem hlt))
        have dx : (xs[n] == x) = true := beq_iff_eq.2 hx
        clear ht hx
        go_wp2
        go_ret
        exact ⟨rfl, rfl⟩
      · have HN : Hid (x ∉ xs.take (n + 1)) := by
          unfold Hid; rw [ht, List.mem_append]
          rintro (h1 | h1)
          · exact hno.out h1
          · simp at h1; exact hx h1.symm
        have dx : (xs[n] == x) = false := beq_eq_false_iff_ne.2 hx
        clear ht hx
        go_wp2
        go_round
        case rel => exact ⟨n + 1, by omega, by go_num, HN⟩
        case measure => simp [intOf]; omega
    · obtain rfl : r = false := hr.out.symm.trans (decide_eq_false (by have := hno.out; rw [List.take_of_length_le (by omega)] at this; exact this))
      go_wp2
      go_ret
      exact ⟨rfl, rfl⟩

set_option maxHeartbeats 400000 in
theorem lwNums_any (va vb : Value) (Ba Bb : Nat) (xs : List Int) (w : World) (ha : Ints w Ba va xs) (hb : Ints w Bb vb xs) (hl : xs.length ≤ 1000) :
    Calls Try.prog 9 #[va, vb] w fun e w' => e = .returned (.bool true) ∧ ∃ n, w' = w.drewN n := by
  obtain ⟨ao, ca, rfl⟩ := ha.form
  obtain ⟨bo, cb, rfl⟩ := hb.form
  have HA : Hid (Ints w Ba (.slice ao xs.length ca) xs) := ha
  have HB : Hid (Ints w Bb (.slice bo xs.length cb) xs) := hb
  clear ha hb
  go_enter Try.func9, Try.ntmps9
  go_wp2
  go_loopw [5] (fun i wr => ∃ k m : Nat, k ≤ xs.length ∧ i = .int .i64 k ∧ wr = w.drewN m) (fun i _ => xs.length - (intOf i).toNat)
  case atStart => exact ⟨0, 0, Nat.zero_le _, rfl, rfl⟩
  case round =>
    obtain ⟨k, m, hk, rfl, rfl⟩ := hrel
    by_cases hlt : k < xs.length
    · obtain ⟨g, rfl, _, hc, _⟩ := HA.out.at hlt
      obtain ⟨g', rfl, _, hc', _⟩ := HB.out.at hlt
      go_wp2
      go_quiet (fail)
      go_wp2
      go_roundw
      case rel => exact ⟨k + 1, _, by omega, by go_num, rfl⟩
      case measure => simp [intOf]; omega
    · go_wp2
      go_ret
      exact ⟨rfl, _, rfl⟩

end Go.Proofs.Ytlkmcnghdfbapaa

namespace Go.Proofs.Ytlkmcnghdfbapaa
open Go.RowKit

theorem empty_len (L : Prs) (c : Int) : ∀ (j : Nat) (i : Int) (xs : List Int), (emptyP L c j i xs).2.length ≤ xs.length + j
  | 0, _, xs => Nat.le_refl _
  | j + 1, i, xs => by
    have h := addR_len xs (kE c i)
    rw [emptyP]
    split
    · simp only; omega
    · have := empty_len L c j (i + 1) (addR xs (kE c i)); omega
theorem reply_small (L : Prs) (kd d n td tn vv : Int) : (replyP L kd d n td tn vv).2.2.1.length ≤ 20 ∧ (replyP L kd d n td tn vv).2.2.2.1 ≤ 20 := by
  have h1 := addR_len [] (kI d)
  have h2 := addR_len (addR [] (kI d)) (kE d n)
  simp only [List.length_nil] at h1
  unfold replyP
  split
  · split
    · split
      · simp only; omega
      · unfold makeP
        have := addR_len (addR (addR [] (kI d)) (kE d n)) 0
        split <;> simp only <;> omega
    · split
      · have h3 := addR_len (addR (addR [] (kI d)) (kE d n)) (kI (minC (lookF L (kE d n)).2))
        have h4 := addR_len (addR (addR (addR [] (kI d)) (kE d n)) (kI (minC (lookF L (kE d n)).2))) (kB (minC (lookF L (kE d n)).2))
        have h5 := target_len L td tn (addR (addR (addR [] (kI d)) (kE d n)) (kI (minC (lookF L (kE d n)).2)))
        have h6 := empty_len L (minC (lookF L (kE d n)).2) 6 0 (addR (addR (addR [] (kI d)) (kE d n)) (kI (minC (lookF L (kE d n)).2)))
        unfold childP removeP moveP linkP
        repeat' split
        all_goals (simp only; omega)
      · simp only; omega
  · simp only; omega
theorem comp_len {n : Nat} {F : Nat → Int} {kd d nm td tn vv c : Int} {p : PRf} (h : CompAns n F kd d nm td tn vv c p) : p.2.2.1.length ≤ 1000 := by
  rcases h with ⟨_, _, rfl⟩ | ⟨_, _, _, rfl⟩ | ⟨_, _, _, rfl⟩
  · simp
  · simp
  · have := (reply_small (listOf F n) kd d nm td tn vv).1; omega
theorem comp_m {n : Nat} {F : Nat → Int} {kd d nm td tn vv c : Int} {p : PRf} (h : CompAns n F kd d nm td tn vv c p) : p.2.2.2.1 ≤ 1000 := by
  rcases h with ⟨_, _, rfl⟩ | ⟨_, _, _, rfl⟩ | ⟨_, _, _, rfl⟩
  · simp
  · simp
  · have := (reply_small (listOf F n) kd d nm td tn vv).2; omega
end Go.Proofs.Ytlkmcnghdfbapaa

namespace Go.Proofs.Ytlkmcnghdfbapaa
open Go.RowKit

/-- What the law stands on: the view, the operation's box, the program's plan and the model's. -/
structure EnvFn (w : World) (b4 b5 b6 : Nat) (c r vl kd d n td tn vv : Int) (m : Nat) (V : Nat → Int) (view : Value) (xs : List Int) (mm : Nat) (W : List Int) (pr pw xr xw : Value) (x : World) : Prop where
  below : Below w.heap.size w x
  view : Row x 0 2 m V view
  op : Blk6 x b4 (.int .i64 kd) (.int .i64 d) (.int .i64 n) (.int .i64 td) (.int .i64 tn) (.int .i64 vv)
  plan : BlkP x b5 (.int .i64 c) (.int .i64 r) (.int .i64 vl) pr pw
  want : BlkP x b6 (.int .i64 c) (.int .i64 r) (.int .i64 vl) xr xw
  pa : PlanAt x 0 xs mm W pr pw
  xa : PlanAt x 0 xs mm W xr xw
theorem EnvFn.later {w : World} {b4 b5 b6 : Nat} {c r vl kd d n td tn vv : Int} {m : Nat} {V : Nat → Int} {view : Value} {xs : List Int} {mm : Nat} {W : List Int} {pr pw xr xw : Value} {x x' : World} (h : EnvFn w b4 b5 b6 c r vl kd d n td tn vv m V view xs mm W pr pw xr xw x) (hb : Below x.heap.size x x') : EnvFn w b4 b5 b6 c r vl kd d n td tn vv m V view xs mm W pr pw xr xw x' :=
  ⟨h.below.trans (hb.mono h.below.size), h.view.later hb, h.op.later hb, h.plan.later hb, h.want.later hb, h.pa.later hb, h.xa.later hb⟩
/-- What is left of the first k pairs of the view. -/
def lessK (V : Nat → Int) (m : Nat) (xs : List Int) (k : Nat) : Prs := lessP ((listOf V m).take k) xs
theorem lessK_succ {V : Nat → Int} {m k : Nat} (xs : List Int) (h : k < m) : lessK V m xs (k + 1) = if V (k * 2) ∈ xs then lessK V m xs k ++ [(V (k * 2), V (k * 2 + 1))] else lessK V m xs k := by
  have hl : k < (listOf V m).length := by rw [listOf_length]; exact h
  have he : (listOf V m)[k] = (V (k * 2), V (k * 2 + 1)) := by
    have := listOf_get (F := V) h
    rw [List.getD_eq_getElem?_getD, List.getElem?_eq_getElem hl] at this
    exact this
  unfold lessK lessP
  rw [List.take_succ_eq_append_getElem hl, List.filter_append, he]
  by_cases q : V (k * 2) ∈ xs
  · rw [if_pos q, List.filter_cons_of_pos (by simpa using q)]; rfl
  · rw [if_neg q, List.filter_cons_of_neg (by simpa using q)]; simp
theorem lessK_all (V : Nat → Int) (m : Nat) (xs : List Int) : lessK V m xs m = lessP (listOf V m) xs := by
  unfold lessK
  rw [List.take_of_length_le (by rw [listOf_length]; exact Nat.le_refl _)]
/-- What the test of a pair stands on: the plan's reads and the pair's key. -/
def KeyP (b5 : Nat) (c r vl : Int) (pr pw : Value) (g o : Nat) (key : Int) (x : World) : Prop := BlkP x b5 (.int .i64 c) (.int .i64 r) (.int .i64 vl) pr pw ∧ x.cell? ⟨g, o, none⟩ = some (.int .i64 key)
set_option maxRecDepth 100000 in
set_option maxHeartbeats 8000000 in
theorem fnPlans_walk (o : Option Addr) (len cap : Nat) (w : World) (hc : Code w o len) (hl0 : len ≤ maxLen) :
    Calls Try.prog 3 #[.slice o len cap] w fun e w' => e = .returned (.bool true) ∧ Below w.heap.size w w' := by
  have hml : maxLen = 9223372036854775807 := rfl
  by_cases hbig : (1048576 : Int) < len
  · have d : decide ((1048576 : Int) < (len : Int)) = true := decide_eq_true hbig
    go_enter Try.func3, Try.ntmps3
    go_wp2_with fail
    refine (lwBigP_is _ _ _ _ _ d).mono ?_
    rintro e w9 ⟨rfl, hw9⟩
    obtain rfl := hw9.symm
    go_wp2
    go_ret
    exact ⟨rfl, Below.refl _ _⟩
  have dz : decide ((1048576 : Int) < (len : Int)) = false := decide_eq_false hbig
  have HD := drawCompile_any w o len cap (hc.later (below_alloc _ _)) (by omega)
  clear hc hbig hml hl0
  go_enter Try.func3, Try.ntmps3
  go_wp2_with fail
  refine (lwBigP_is _ _ _ _ _ dz).mono ?_
  rintro e w9 ⟨rfl, hw9⟩
  obtain rfl := hw9.symm
  go_wp2_with fail
  refine HD.mono ?_
  clear HD
  rintro e w1 ⟨m, V, ao, cp, kd, d, n, td, tn, vv, rfl, hm, hV, q1⟩
  have OP : Hid (Blk6 (w1.alloc (.cells #[.int .i64 kd, .int .i64 d, .int .i64 n, .int .i64 td, .int .i64 tn, .int .i64 vv] 26)) w1.heap.size (.int .i64 kd) (.int .i64 d) (.int .i64 n) (.int .i64 td) (.int .i64 tn) (.int .i64 vv) ∧ Row (w1.alloc (.cells #[.int .i64 kd, .int .i64 d, .int .i64 n, .int .i64 td, .int .i64 tn, .int .i64 vv] 26)) 0 2 m V (.slice ao m cp) ∧ Below w.heap.size w (w1.alloc (.cells #[.int .i64 kd, .int .i64 d, .int .i64 n, .int .i64 td, .int .i64 tn, .int .i64 vv] 26))) :=
    ⟨Blk6.new w1 _ _ _ _ _ _ _, (hV.mono (Nat.zero_le _)).alloc _, q1.alloc q1.size _⟩
  clear hV q1 dz
  obtain ⟨c, p, hans⟩ := CompAns.get m V kd d n td tn vv
  have HX : Hid (p.2.2.1.length ≤ 1000 ∧ p.2.2.2.1 ≤ 1000) := ⟨comp_len hans, comp_m hans⟩
  have HSP : Hid (∀ u X, Row X 0 2 m V u → Calls Try.prog 7 #[u, .agg #[.int .i64 kd, .int .i64 d, .int .i64 n, .int .i64 td, .int .i64 tn, .int .i64 vv]] X (ResPlan X c p.1 p.2.1 p.2.2.1 p.2.2.2.1 p.2.2.2.2)) := fun u X hu => specCompile_is u 0 m V kd d n td tn vv c p X hu (by omega) hans
  have HIM : Hid (∀ u X, Row X 0 2 m V u → Calls Try.prog 6 #[u, .agg #[.int .i64 kd, .int .i64 d, .int .i64 n, .int .i64 td, .int .i64 tn, .int .i64 vv]] X (ResPlan X c p.1 p.2.1 p.2.2.1 p.2.2.2.1 p.2.2.2.2)) := fun u X hu => implCompile_is u 0 m V kd d n td tn vv c p X hu (by omega) hans
  have HA : Hid (CompAns m V kd d n td tn vv c p) := hans
  clear hans
  obtain ⟨r, vl, xs, mm, W⟩ := p
  go_wp2_with fail
  generalize w1.alloc (.cells #[.int .i64 kd, .int .i64 d, .int .i64 n, .int .i64 td, .int .i64 tn, .int .i64 vv] 26) = w2 at OP ⊢
  obtain ⟨⟨o0, o1, o2, o3, o4, o5⟩, _⟩ := OP.out.1
  go_wp2_with fail
  refine (HIM.out _ _ OP.out.2.1).mono ?_
  rintro e w3 ⟨pr, pw, rfl, hP3, q3⟩
  obtain ⟨⟨pa, pb, rfl⟩, pc, pd, rfl⟩ := PlanAt.form hP3
  have E3 : Hid (Blk6 (w3.alloc (.cells #[.int .i64 c, .int .i64 r, .int .i64 vl, .slice pa xs.length pb, .slice pc mm pd] 32)) w1.heap.size (.int .i64 kd) (.int .i64 d) (.int .i64 n) (.int .i64 td) (.int .i64 tn) (.int .i64 vv) ∧ Row (w3.alloc (.cells #[.int .i64 c, .int .i64 r, .int .i64 vl, .slice pa xs.length pb, .slice pc mm pd] 32)) 0 2 m V (.slice ao m cp) ∧ Below w.heap.size w (w3.alloc (.cells #[.int .i64 c, .int .i64 r, .int .i64 vl, .slice pa xs.length pb, .slice pc mm pd] 32)) ∧ BlkP (w3.alloc (.cells #[.int .i64 c, .int .i64 r, .int .i64 vl, .slice pa xs.length pb, .slice pc mm pd] 32)) w3.heap.size (.int .i64 c) (.int .i64 r) (.int .i64 vl) (.slice pa xs.length pb) (.slice pc mm pd) ∧ PlanAt (w3.alloc (.cells #[.int .i64 c, .int .i64 r, .int .i64 vl, .slice pa xs.length pb, .slice pc mm pd] 32)) 0 xs mm W (.slice pa xs.length pb) (.slice pc mm pd)) :=
    ⟨(OP.out.1.later q3).alloc _, (OP.out.2.1.later q3).alloc _, (OP.out.2.2.trans (q3.mono OP.out.2.2.size)).alloc (Nat.le_trans OP.out.2.2.size q3.size) _, BlkP.new w3 _ _ _ _ _ _, (PlanAt.up hP3 (Nat.zero_le _)).alloc _⟩
  clear hP3 q3 OP o0 o1 o2 o3 o4 o5
  obtain ⟨⟨o0, o1, o2, o3, o4, o5⟩, _⟩ := E3.out.1
  go_wp2_with fail
  clear o0 o1 o2 o3 o4 o5
  generalize w3.alloc (.cells #[.int .i64 c, .int .i64 r, .int .i64 vl, .slice pa xs.length pb, .slice pc mm pd] 32) = w4 at E3 ⊢
  refine (HSP.out _ _ E3.out.2.1).mono ?_
  rintro e w5 ⟨xr, xw, rfl, hP5, q5⟩
  obtain ⟨⟨ya, yb, rfl⟩, yc, yd, rfl⟩ := PlanAt.form hP5
  have E5 : Hid (EnvFn w w1.heap.size w3.heap.size w5.heap.size c r vl kd d n td tn vv m V (.slice ao m cp) xs mm W (.slice pa xs.length pb) (.slice pc mm pd) (.slice ya xs.length yb) (.slice yc mm yd) (w5.alloc (.cells #[.int .i64 c, .int .i64 r, .int .i64 vl, .slice ya xs.length yb, .slice yc mm yd] 32))) :=
    ⟨(E3.out.2.2.1.trans (q5.mono E3.out.2.2.1.size)).alloc (Nat.le_trans E3.out.2.2.1.size q5.size) _, (E3.out.2.1.later q5).alloc _, (E3.out.1.later q5).alloc _, (E3.out.2.2.2.1.later q5).alloc _, BlkP.new w5 _ _ _ _ _ _, (E3.out.2.2.2.2.later q5).alloc _, (PlanAt.up hP5 (Nat.zero_le _)).alloc _⟩
  clear hP5 q5 E3 HSP HIM
  obtain ⟨⟨p0, p1, p2, p3, p4⟩, _⟩ := E5.out.plan
  obtain ⟨⟨y0, y1, y2, y3, y4⟩, _⟩ := E5.out.want
  by_cases hc0 : c = 0
  case neg =>
    have dc : (c != 0) = true := bne_iff_ne.2 hc0
    have BB : Hid (Below w.heap.size w (w5.alloc (.cells #[.int .i64 c, .int .i64 r, .int .i64 vl, .slice ya xs.length yb, .slice yc mm yd] 32))) := E5.out.below
    clear E5 HX HA hc0
    go_wp2
    go_ret
    exact ⟨by simp, BB.out⟩
  subst hc0
  have HZ : Hid (pairsF V m 0 = 0 ∧ opF kd d n td tn vv = 0 ∧ (r, vl, xs, mm, W) = replyP (listOf V m) kd d n td tn vv) := by
    rcases HA.out with ⟨q, q', _⟩ | ⟨_, q, q', _⟩ | ⟨q1, q2, _, q3⟩
    · exact absurd q'.symm q
    · exact absurd q'.symm q
    · exact ⟨q1, q2, q3⟩
  clear HA
  obtain ⟨i0, hi, iz0, iz1, iz2⟩ := info_parts infoz_Pair
  go_wp2_with fail
  clear p0 p1 p2 p3 p4 y0 y1 y2 y3 y4
  have HX0 : Hid ((w5.alloc (.cells #[.int .i64 0, .int .i64 r, .int .i64 vl, .slice ya xs.length yb, .slice yc mm yd] 32)).heap.size = w5.heap.size + 1) := World.size_alloc _ _
  generalize w5.alloc (.cells #[.int .i64 0, .int .i64 r, .int .i64 vl, .slice ya xs.length yb, .slice yc mm yd] 32) = X0 at E5 HX0 ⊢
  go_loopw [7, 8] (fun lv i wr => ∃ (k : Nat) (la : Option Addr) (lc : Nat) (M : Prs), k ≤ m ∧ i = .int .i64 k ∧ lv = .slice la M.length lc ∧ M.length ≤ k ∧ Hid (M = lessK V m xs k) ∧ Hid (Below X0.heap.size X0 wr ∧ OwnM wr X0.heap.size 36 2 (.slice la M.length lc) M.length (flatL M))) (fun _ i _ => m - (intOf i).toNat)
  case atStart => exact ⟨0, _, _, [], Nat.zero_le _, rfl, rfl, Nat.le_refl _, rfl, below_alloc _ _, by rw [HX0.out]; exact OwnM.lit0 _ _ _ _ HX0.out⟩
  case round =>
    obtain ⟨k, la, lc, M, hk, rfl, rfl, hMk, HM, HS⟩ := hrel
    by_cases hlt : k < m
    case pos =>
      have EK : Hid (EnvFn w w1.heap.size w3.heap.size w5.heap.size 0 r vl kd d n td tn vv m V (.slice ao m cp) xs mm W (.slice pa xs.length pb) (.slice pc mm pd) (.slice ya xs.length yb) (.slice yc mm yd) wr) := E5.out.later HS.out.1
      obtain ⟨g, oo, rfl, _, hg, z0, z1⟩ := EK.out.view.at2 hlt
      have HLS := lessK_succ (V := V) (m := m) xs hlt
      obtain ⟨n0, N0⟩ : ∃ x, V (k * 2) = x := ⟨_, rfl⟩
      rw [N0] at z0 HLS
      obtain ⟨n1, N1⟩ : ∃ x, V (k * 2 + 1) = x := ⟨_, rfl⟩
      rw [N1] at z1 HLS
      have HLN : Hid (lessK V m xs (k + 1) = if n0 ∈ xs then M ++ [(n0, n1)] else M) := by unfold Hid; rw [HLS, HM.out]
      clear N0 N1 HLS
      obtain ⟨b, hb⟩ : ∃ b, Hid (decide (n0 ∈ xs) = b) := ⟨_, rfl⟩
      have hK0 : KeyP w3.heap.size 0 r vl (.slice pa xs.length pb) (.slice pc mm pd) g (oo + k * 2) n0 wr.drew := ⟨EK.out.plan.later (Below.refl _ wr).drew, z0⟩
      have HSd : Hid (Below X0.heap.size X0 wr.drew ∧ OwnM wr.drew X0.heap.size 36 2 (.slice la M.length lc) M.length (flatL M)) := ⟨HS.out.1.drew, HS.out.2⟩
      have HPA : Hid (Ints wr.drew 0 (.slice pa xs.length pb) xs) := EK.out.pa.1
      have HV : Hid (wr.drew.cell? ⟨g, oo + k * 2, none⟩ = some (.int .i64 n0) ∧ wr.drew.cell? ⟨g, oo + k * 2 + 1, none⟩ = some (.int .i64 n1)) := ⟨z0, z1⟩
      clear z0 z1 EK HS hg
      go_wp2_with fail
      refine wp_region_held_drew (S := KeyP w3.heap.size 0 r vl (.slice pa xs.length pb) (.slice pc mm pd) g (oo + k * 2) n0) (by kernel_rfl) hK0 (fun hS => ?_)
      clear hK0
      generalize wr.drew = wa at *
      refine tkH 0 ?_ hS (fun wx hx => ?_) ?_; rotate_left
      · obtain ⟨⟨⟨hx0, hx1, hx2, hx3, hx4⟩, _⟩, hy⟩ := hx; go_simp; try with_reducible rfl
      refine tkH 1 ?_ hS (fun wx hx => ?_) ?_; rotate_left
      · obtain ⟨⟨⟨hx0, hx1, hx2, hx3, hx4⟩, _⟩, hy⟩ := hx; go_simp; try with_reducible rfl
      refine tkH 2 ?_ hS (fun wx hx => ?_) ?_; rotate_left
      · obtain ⟨⟨⟨hx0, hx1, hx2, hx3, hx4⟩, _⟩, hy⟩ := hx; go_simp; try with_reducible rfl
      refine tkH 3 ?_ hS (fun wx hx => ?_) ?_; rotate_left
      · obtain ⟨⟨⟨hx0, hx1, hx2, hx3, hx4⟩, _⟩, hy⟩ := hx; go_simp; try with_reducible rfl
      refine tkH 4 ?_ hS (fun wx hx => ?_) ?_; rotate_left
      · obtain ⟨⟨⟨hx0, hx1, hx2, hx3, hx4⟩, _⟩, hy⟩ := hx; go_simp; try with_reducible rfl
      refine tkH 5 ?_ hS (fun wx hx => ?_) ?_; rotate_left
      · obtain ⟨⟨⟨hx0, hx1, hx2, hx3, hx4⟩, _⟩, hy⟩ := hx; go_simp; try with_reducible rfl
      refine tkH 6 ?_ hS (fun wx hx => ?_) ?_; rotate_left
      · obtain ⟨⟨⟨hx0, hx1, hx2, hx3, hx4⟩, _⟩, hy⟩ := hx; go_simp; try with_reducible rfl
      refine rdH 7 (fun K hK => ?_)
      go_simp
      go_wp2_with fail
      refine (lwHas_any _ 0 xs n0 b hb _ HPA.out HX.out.1).mono ?_
      rintro e w7 ⟨rfl, hw7⟩
      obtain rfl := hw7.symm
      go_wp2_with fail
      refine hK.out _ _ hS (fun hS => ?_)
      clear hK K
      refine wpAnyH_done (by kernel_rfl) ?_ _
      clear hS
      go_simp
      cases b with
      | false =>
        have HN : Hid (M = lessK V m xs (k + 1)) := by
          unfold Hid; rw [HLN.out, if_neg (of_decide_eq_false hb.out)]
        go_wp2
        go_roundw
        case rel => exact ⟨k + 1, la, lc, M, by omega, by go_num, rfl, by omega, HN, HSd⟩
        case measure => simp [intOf]; omega
      | true =>
        have HN : Hid (M ++ [(n0, n1)] = lessK V m xs (k + 1)) := by
          unfold Hid; rw [HLN.out, if_pos (of_decide_eq_true hb.out)]
        obtain ⟨z0, z1⟩ := HV.out
        go_wp2_with (at_builtin; refine wpList_app 36 i0 (.agg #[.int .i64 0, .int .i64 0]) 2 16 rfl (.tmp 47) (.tmp 52) 24 rfl Try.underlying24 hi iz0 iz1 iz2 rfl (by omega) (by omega) _ X0.heap.size M.length (flatL M) (.slice la M.length lc) rfl (HSd.out.2.later (below_alloc _ _)) 0 1 (fun p => [n0, n1].getD p 0) (.slice (some ⟨wa.heap.size, 0, none⟩) 1 1) rfl (row_lit2 wa n0 n1 36) (by omega) (by have := HSd.out.1.size; simp; omega) ?_; intro ao1 cp1 w8 O8 G8)
        have HS8 : Hid (Below X0.heap.size X0 w8 ∧ OwnM w8 X0.heap.size 36 2 (.slice ao1 (M ++ [(n0, n1)]).length cp1) (M ++ [(n0, n1)]).length (flatL (M ++ [(n0, n1)]))) := by
          refine ⟨(HSd.out.1.alloc HSd.out.1.size _).grown G8 (by have := HSd.out.1.size; simp; omega) (fun k hk => (OwnM.block HSd.out.2 k hk).1), ?_⟩
          rw [List.length_append, flatL_append]
          exact O8
        clear O8 G8
        go_wp2
        go_roundw
        case rel => exact ⟨k + 1, ao1, cp1, M ++ [(n0, n1)], by omega, by go_num, by simp, by simp; omega, HN, HS8⟩
        case measure => simp [intOf]; omega
    case neg =>
      obtain rfl : m = k := by omega
      have HQ : Hid (∀ u X, Row X 0 2 M.length (rowL M) u → Calls Try.prog 6 #[u, .agg #[.int .i64 kd, .int .i64 d, .int .i64 n, .int .i64 td, .int .i64 tn, .int .i64 vv]] X (ResPlan X 0 r vl xs mm W)) := by
        intro u X hu
        obtain ⟨z1, z2, z3⟩ := HZ.out
        have hM : M = lessP (listOf V m) xs := by rw [HM.out, lessK_all]
        have hg : GoodP M := by rw [hM]; exact (good_of_pairs z1).less xs
        have hx : xs = (replyP (listOf V m) kd d n td tn vv).2.2.1 := by rw [← z3]
        refine implCompile_is u 0 M.length (rowL M) kd d n td tn vv 0 (r, vl, xs, mm, W) X hu (by omega) (Or.inr (Or.inr ⟨pairs_of_good hg, z2, rfl, ?_⟩))
        rw [listOf_rowL, hM, hx, replyP_less, ← z3]
      have HV : Hid ((r = 0 ∨ mm = 0) ∧ 0 < xs.length) := by
        obtain ⟨_, _, z3⟩ := HZ.out
        have h1 := replyP_void (listOf V m) kd d n td tn vv
        have h2 := reads_pos (listOf V m) kd d n td tn vv
        rw [← z3] at h1 h2
        refine ⟨?_, h2⟩
        by_cases hr : r = 0
        · exact Or.inl hr
        · have h3 := h1 hr
          exact Or.inr (by simpa using congrArg Prod.fst h3)
      have EK : Hid (EnvFn w w1.heap.size w3.heap.size w5.heap.size 0 r vl kd d n td tn vv m V (.slice ao m cp) xs mm W (.slice pa xs.length pb) (.slice pc mm pd) (.slice ya xs.length yb) (.slice yc mm yd) wr) := E5.out.later HS.out.1
      have HR : Hid (Row wr 0 2 M.length (rowL M) (.slice la M.length lc)) := (ownM_own HS.out.2).row.1.mono (Nat.zero_le _)
      obtain ⟨⟨o0, o1, o2, o3, o4, o5⟩, _⟩ := EK.out.op
      clear E5 HS HM HZ
      go_wp2_with fail
      refine (HQ.out _ _ HR.out).mono ?_
      rintro e w8 ⟨qr, qw, rfl, hP8, q8⟩
      obtain ⟨⟨qa, qb, rfl⟩, qc, qd, rfl⟩ := PlanAt.form hP8
      have E9 : Hid (EnvFn w w1.heap.size w3.heap.size w5.heap.size 0 r vl kd d n td tn vv m V (.slice ao m cp) xs mm W (.slice pa xs.length pb) (.slice pc mm pd) (.slice ya xs.length yb) (.slice yc mm yd) (w8.alloc (.cells #[.int .i64 0, .int .i64 r, .int .i64 vl, .slice qa xs.length qb, .slice qc mm qd] 32)) ∧ BlkP (w8.alloc (.cells #[.int .i64 0, .int .i64 r, .int .i64 vl, .slice qa xs.length qb, .slice qc mm qd] 32)) w8.heap.size (.int .i64 0) (.int .i64 r) (.int .i64 vl) (.slice qa xs.length qb) (.slice qc mm qd) ∧ PlanAt (w8.alloc (.cells #[.int .i64 0, .int .i64 r, .int .i64 vl, .slice qa xs.length qb, .slice qc mm qd] 32)) 0 xs mm W (.slice qa xs.length qb) (.slice qc mm qd)) :=
        ⟨(EK.out.later q8).later (below_alloc _ _), BlkP.new w8 _ _ _ _ _ _, (PlanAt.up hP8 (Nat.zero_le _)).alloc _⟩
      clear hP8 q8 EK HQ HR o0 o1 o2 o3 o4 o5
      obtain ⟨⟨p0, p1, p2, p3, p4⟩, _⟩ := E9.out.1.plan
      obtain ⟨⟨s0, s1, s2, s3, s4⟩, _⟩ := E9.out.2.1
      go_wp2_with fail
      refine (lwNums_any _ _ 0 0 xs _ E9.out.2.2.1 E9.out.1.pa.1 HX.out.1).mono ?_
      rintro e w10 ⟨rfl, j0, rfl⟩
      have EA : Hid (EnvFn w w1.heap.size w3.heap.size w5.heap.size 0 r vl kd d n td tn vv m V (.slice ao m cp) xs mm W (.slice pa xs.length pb) (.slice pc mm pd) (.slice ya xs.length yb) (.slice yc mm yd) ((w8.alloc (.cells #[.int .i64 0, .int .i64 r, .int .i64 vl, .slice qa xs.length qb, .slice qc mm qd] 32)).drewN j0) ∧ BlkP ((w8.alloc (.cells #[.int .i64 0, .int .i64 r, .int .i64 vl, .slice qa xs.length qb, .slice qc mm qd] 32)).drewN j0) w8.heap.size (.int .i64 0) (.int .i64 r) (.int .i64 vl) (.slice qa xs.length qb) (.slice qc mm qd) ∧ PlanAt ((w8.alloc (.cells #[.int .i64 0, .int .i64 r, .int .i64 vl, .slice qa xs.length qb, .slice qc mm qd] 32)).drewN j0) 0 xs mm W (.slice qa xs.length qb) (.slice qc mm qd)) :=
        ⟨E9.out.1.later (below_drewN (Below.refl _ _) j0), E9.out.2.1.later (below_drewN (Below.refl _ _) j0), E9.out.2.2.later (below_drewN (Below.refl _ _) j0)⟩
      clear E9 p0 p1 p2 p3 p4 s0 s1 s2 s3 s4
      generalize (w8.alloc (.cells #[.int .i64 0, .int .i64 r, .int .i64 vl, .slice qa xs.length qb, .slice qc mm qd] 32)).drewN j0 = wz at EA ⊢
      obtain ⟨⟨p0, p1, p2, p3, p4⟩, _⟩ := EA.out.1.plan
      obtain ⟨⟨s0, s1, s2, s3, s4⟩, _⟩ := EA.out.2.1
      obtain ⟨⟨y0, y1, y2, y3, y4⟩, _⟩ := EA.out.1.want
      have hmm := HX.out.2
      go_wp2_with fail
      go_loopw [10] (fun i wr => ∃ k j : Nat, k ≤ mm ∧ i = .int .i64 k ∧ wr = wz.drewN j) (fun i _ => mm - (intOf i).toNat)
      case atStart => exact ⟨0, 0, Nat.zero_le _, rfl, rfl⟩
      case round =>
        obtain ⟨k, j, hk, rfl, rfl⟩ := hrel
        by_cases hlt : k < mm
        · obtain ⟨g1, oo1, rfl, _, _, a0, a1, a2⟩ := EA.out.1.pa.rows.1.at3 hlt
          obtain ⟨g2, oo2, rfl, _, _, b0, b1, b2⟩ := EA.out.2.2.rows.1.at3 hlt
          obtain ⟨g3, oo3, rfl, _, _, c0, c1, c2⟩ := EA.out.1.xa.rows.1.at3 hlt
          obtain ⟨n0, N0⟩ : ∃ x, W.getD (k * 3) 0 = x := ⟨_, rfl⟩
          obtain ⟨n1, N1⟩ : ∃ x, W.getD (k * 3 + 1) 0 = x := ⟨_, rfl⟩
          obtain ⟨n2, N2⟩ : ∃ x, W.getD (k * 3 + 2) 0 = x := ⟨_, rfl⟩
          rw [N0] at a0 b0 c0
          rw [N1] at a1 b1 c1
          rw [N2] at a2 b2 c2
          clear N0 N1 N2 EA
          go_wp2
          go_quiet (fail)
          go_wp2
          go_roundw
          case rel => exact ⟨k + 1, _, by omega, by go_num, rfl⟩
          case measure => simp [intOf]; omega
        · obtain ⟨hv, hxp⟩ := HV.out
          have BB : Hid (Below w.heap.size w wz) := EA.out.1.below
          clear EA HV HX hmm
          by_cases hr : r = 0
          · have dr : (r == 0) = true := by rw [hr]; rfl
            clear hv hr
            go_wp2
            all_goals
              go_ret
              exact ⟨by first | rfl | simp | (simp; omega), below_drewN BB.out _⟩
          · have dr : (r == 0) = false := beq_eq_false_iff_ne.2 hr
            have hm0 : mm = 0 := hv.resolve_left hr
            have dm : ((mm : Int) == 0) = true := by rw [hm0]; rfl
            clear hv hr hm0
            go_wp2
            all_goals
              go_ret
              exact ⟨by first | rfl | simp | (simp; omega), below_drewN BB.out _⟩
end Go.Proofs.Ytlkmcnghdfbapaa

