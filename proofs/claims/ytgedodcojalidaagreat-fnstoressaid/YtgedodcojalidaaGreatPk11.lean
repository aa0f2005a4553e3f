/-
  Own text, merged of PartE, JoiB, JoiA, JoiC, JoiD, JoiF, RegQ, JoiE, JoiG, ColsS.
-/
import Derived.Test.YtgedodcojalidaaGreatPk10
namespace Go.Proofs.YtgedodcojalidaaGreat
open Go.RowKit Go.Maps Go.Sort Go.Shelf Go.Lib

theorem partFit_yes (a b : Int) (w : World) (ha : 0 ≤ a) (ha2 : a ≤ 200) (hb : 0 ≤ b) (hb2 : b ≤ 200) :
    Calls Tryz.prog 14 #[.int .i64 a, .int .i64 b] w fun e w' => e = .returned (.bool true) ∧ w' = w := by
  have d2 : decide (b ≤ 200) = true := decide_eq_true hb2
  go_enter Tryz.func14, Tryz.ntmps14
  go_wp2
  go_ret
  exact ⟨rfl, rfl⟩
set_option maxHeartbeats 400000 in
theorem partFit_no (a b : Int) (w : World) (h : (a < 0 ∨ 200 < a) ∨ (b < 0 ∨ 200 < b)) :
    Calls Tryz.prog 14 #[.int .i64 a, .int .i64 b] w fun e w' => e = .returned (.bool false) ∧ w' = w := by
  by_cases ha : a < 0
  · clear h
    have d0 : decide (0 ≤ a) = false := decide_eq_false (by omega)
    go_enter Tryz.func14, Tryz.ntmps14
    go_wp2
    go_ret
    exact ⟨rfl, rfl⟩
  by_cases ha2 : 200 < a
  · clear h
    have d1 : decide (a ≤ 200) = false := decide_eq_false (by omega)
    go_enter Tryz.func14, Tryz.ntmps14
    go_wp2
    go_ret
    exact ⟨rfl, rfl⟩
  have d1 : decide (a ≤ 200) = true := decide_eq_true (by omega)
  by_cases hb : b < 0
  · clear h
    have d0 : decide (0 ≤ b) = false := decide_eq_false (by omega)
    go_enter Tryz.func14, Tryz.ntmps14
    go_wp2
    go_ret
    exact ⟨rfl, rfl⟩
  have d2 : decide (b ≤ 200) = false := decide_eq_false (by omega)
  clear h
  go_enter Tryz.func14, Tryz.ntmps14
  go_wp2
  go_ret
  exact ⟨rfl, rfl⟩
theorem selD_keepD (F : Nat → Int) (m : Nat) (hm : 0 < m) (fr tto : Int) : ∀ k, selD F m (outD fr tto) k = keepD F m fr (tto - 1) k
  | 0 => rfl
  | k + 1 => by
    have ih := selD_keepD F m hm fr tto k
    have hg : (struD F m k).getD 0 0 = F (k * m) := struD_get F m k 0 hm
    rw [keepD]
    by_cases h : fr ≤ F (k * m) ∧ F (k * m) ≤ tto - 1
    · rw [selD_kept (by unfold outD; rw [hg]; exact decide_eq_false (by omega)), if_pos h, ih]
    · rw [selD_gone (by unfold outD; rw [hg]; exact decide_eq_true (by omega)), if_neg h, ih, List.append_nil]
theorem part_row (F : Nat → Int) (m : Nat) (hm : 0 < m) (fr tto : Int) (k : Nat) : (selD F m (outD fr tto) k).length = keepN F m fr (tto - 1) k ∧ (fun p => (selD F m (outD fr tto) k).flatten.getD p 0) = keepF F m fr (tto - 1) k := by
  rw [selD_keepD F m hm fr tto k]
  refine ⟨keepD_len F m fr (tto - 1) k, ?_⟩
  unfold keepF
  rw [keepD_flat]
theorem keepD_in {F : Nat → Int} {m : Nat} {a b : Int} {i : Nat} (h : a ≤ F (i * m) ∧ F (i * m) ≤ b) : ∀ {k : Nat}, i < k → struD F m i ∈ keepD F m a b k
  | 0, hi => by omega
  | k + 1, hi => by
    rw [keepD]
    by_cases e : i = k
    · subst e; rw [if_pos h]; simp
    · exact List.mem_append.2 (Or.inl (keepD_in h (by omega)))
theorem keepD_out {F : Nat → Int} {m : Nat} {a b : Int} {x : List Int} : ∀ {k : Nat}, x ∈ keepD F m a b k → ∃ i, i < k ∧ x = struD F m i ∧ a ≤ F (i * m) ∧ F (i * m) ≤ b
  | 0, h => by simp [keepD] at h
  | k + 1, h => by
    rw [keepD] at h
    rcases List.mem_append.1 h with h | h
    · obtain ⟨i, hi, e, r⟩ := keepD_out h
      exact ⟨i, by omega, e, r⟩
    · split at h
      · simp at h
        exact ⟨k, by omega, h, by assumption⟩
      · simp at h
theorem part_map {S : Sto} (hz : scan (cellF S.c) S.nc = 0) (fr tto : Int) : MapRow (inM (cellM S S.nc) fr tto) (keepN S.c 3 fr (tto - 1) S.nc) (keepF S.c 3 fr (tto - 1) S.nc) := by
  have h := mapRow_list (m := inM (cellM S S.nc) fr tto) (L := keepD S.c 3 fr (tto - 1) S.nc) keepD_all (keepD_rise (by omega) (n := S.nc) (cells_rise hz) S.nc (Nat.le_refl _)) (fun x y v hm => ?_) (fun x y v hx hy hm => ?_)
  · rw [keepD_len] at h
    unfold keepF
    rw [← keepD_flat]
    exact h
  · obtain ⟨i, hi, e, h1⟩ := keepD_out hm
    rw [struD_three] at e
    simp at e
    obtain ⟨rfl, rfl, rfl⟩ := e
    have hc := cellF_zero (scan_zero hz i hi)
    have hk := faultOf_zero hc.1
    refine ⟨⟨wf_small hk.1 (by omega), wf_small (by omega) hc.2.2.1⟩, ?_⟩
    unfold inM
    rw [if_neg (by omega)]
    exact cellM_at hz hi ⟨rfl, rfl⟩
  · unfold inM at hm
    by_cases ho : x < fr ∨ tto ≤ x
    · rw [if_pos ho] at hm; cases hm
    · rw [if_neg ho] at hm
      obtain ⟨i, hi, rfl, rfl, rfl⟩ := cellM_some hm
      rw [← struD_three]
      exact keepD_in (by omega) hi
set_option maxRecDepth 100000 in
set_option maxHeartbeats 8000000 in
theorem implPartStore_is (S : Sto) (v0 v1 v2 : Value) (fr tto c : Int) (R : Sto) (B : Nat) (w : World) (h : St w B S v0 v1 v2) (hA : PartAns S fr tto c R) :
    Calls Tryz.prog 6 #[.agg #[v0, v1, v2], .int .i64 fr, .int .i64 tto] w (ResSto w c R) := by
  obtain ⟨a0, c0, a1, c1, a2, c2, rfl, rfl, rfl⟩ := h.form
  have HE : Hid (CallSto w B S (.slice a0 S.nc c0) (.slice a1 S.nl c1) (.slice a2 S.nw c2) ((w.alloc (.cells #[.slice a0 S.nc c0, .slice a1 S.nl c1, .slice a2 S.nw c2] 28)).alloc (.cells #[.int .i64 0, .slice none 0 0, .slice none 0 0, .slice none 0 0] 32))) := CallSto.new h _ _
  clear h
  unfold ResSto
  rcases hA with ⟨hz, rfl, rfl⟩ | ⟨hz, hf, rfl, rfl⟩ | ⟨hz, hf, rfl, rfl⟩
  · obtain ⟨f, hf⟩ : ∃ f, storeF S = f := ⟨_, rfl⟩
    have HF : Hid (storeF S = f) := hf
    have hfn : (f == 0) = false := beq_eq_false_iff_ne.2 (by rw [← hf]; exact hz)
    rw [hf]
    clear hz hf
    go_enter Tryz.func6, Tryz.ntmps6
    go_wp2_with fail
    refine (implFault_any S _ _ _ B _ HE.out.2.2.1).mono ?_
    rw [HF.out]
    rintro e w1 ⟨rfl, q1⟩
    have HE : Hid (CallSto w B S (.slice a0 S.nc c0) (.slice a1 S.nl c1) (.slice a2 S.nw c2) w1) := HE.out.later q1
    obtain ⟨⟨⟨p0, p1, p2⟩, _⟩, ⟨⟨r0, r1, r2, r3⟩, f0, f1, f2, f3⟩, _⟩ := HE.out
    clear q1
    go_wp2
    exact bodyPost_ret (v := .agg #[.int .i64 f, .slice none 0 0, .slice none 0 0, .slice none 0 0]) (by simp [results, Tryz.results6, go_sem, r0, r1, r2, r3]) rfl ⟨none, 0, none, 0, none, 0, rfl, empty_sto _ _, (((HE.out.2.2.2.setCell (Nat.le_succ _) _).setCell (Nat.le_succ _) _).setCell (Nat.le_succ _) _).setCell (Nat.le_succ _) _⟩
  · have HA : Hid (storeF S = 0) := hz
    have HN : Hid ((fr < 0 ∨ 200 < fr) ∨ (tto < 0 ∨ 200 < tto)) := by unfold partFits at hf; unfold Hid; omega
    clear hf hz
    go_enter Tryz.func6, Tryz.ntmps6
    go_wp2_with fail
    refine (implFault_any S _ _ _ B _ HE.out.2.2.1).mono ?_
    rw [HA.out]
    rintro e w1 ⟨rfl, q1⟩
    have HE : Hid (CallSto w B S (.slice a0 S.nc c0) (.slice a1 S.nl c1) (.slice a2 S.nw c2) w1) := HE.out.later q1
    obtain ⟨⟨⟨p0, p1, p2⟩, _⟩, ⟨⟨r0, r1, r2, r3⟩, f0, f1, f2, f3⟩, _⟩ := HE.out
    clear q1
    go_wp2_with fail
    refine (partFit_no fr tto _ HN.out).mono ?_
    rintro e w2 ⟨rfl, rfl⟩
    go_wp2
    exact bodyPost_ret (v := .agg #[.int .i64 3, .slice none 0 0, .slice none 0 0, .slice none 0 0]) (by simp [results, Tryz.results6, go_sem, r0, r1, r2, r3]) rfl ⟨none, 0, none, 0, none, 0, rfl, empty_sto _ _, (((HE.out.2.2.2.setCell (Nat.le_succ _) _).setCell (Nat.le_succ _) _).setCell (Nat.le_succ _) _).setCell (Nat.le_succ _) _⟩
  · have HA : Hid (storeF S = 0) := hz
    have Z := storeF_zero hz
    have HZ : Hid (scan (cellF S.c) S.nc = 0 ∧ (S.nc ≤ 200 ∧ S.nl ≤ 200 ∧ S.nw ≤ 200)) := ⟨Z.2.1, Z.1⟩
    have HB : Hid (((0 : Int) ≤ fr ∧ fr ≤ 200) ∧ ((0 : Int) ≤ tto ∧ tto ≤ 200)) := hf
    have HP : Hid (∀ (b g : Nat) (x : World) (Bx : Nat) (y1 y2 : Value), Cols x Bx b S.nc (inM (cellM S S.nc) fr tto) (selD S.l 5 (outD fr tto) S.nl).length (fun p => (selD S.l 5 (outD fr tto) S.nl).flatten.getD p 0) (selD S.k 4 (outD fr tto) S.nw).length (fun p => (selD S.k 4 (outD fr tto) S.nw).flatten.getD p 0) g y1 y2 → Calls Tryz.prog 17 #[.pointer (some ⟨b, 0, none⟩)] x (NewSto x (partS S fr tto))) := fun b g x Bx y1 y2 hx => by
      have hl := selD_le S.l 5 (outD fr tto) S.nl
      have hk := selD_le S.k 4 (outD fr tto) S.nw
      have hs := store_is Bx b S.nc _ _ _ _ _ g y1 y2 x hx (by omega) (by omega) (by omega) _ _ (part_map Z.2.1 fr tto)
      rw [(part_row S.l 5 (by omega) fr tto S.nl).1, (part_row S.l 5 (by omega) fr tto S.nl).2, (part_row S.k 4 (by omega) fr tto S.nw).1, (part_row S.k 4 (by omega) fr tto S.nw).2] at hs
      exact hs
    generalize partS S fr tto = R at HP ⊢
    clear hf hz Z
    go_enter Tryz.func6, Tryz.ntmps6
    go_wp2_with fail
    refine (implFault_any S _ _ _ B _ HE.out.2.2.1).mono ?_
    rw [HA.out]
    rintro e w1 ⟨rfl, q1⟩
    have HE : Hid (CallSto w B S (.slice a0 S.nc c0) (.slice a1 S.nl c1) (.slice a2 S.nw c2) w1) := HE.out.later q1
    obtain ⟨⟨⟨p0, p1, p2⟩, _⟩, ⟨⟨r0, r1, r2, r3⟩, f0, f1, f2, f3⟩, _⟩ := HE.out
    clear q1
    go_wp2_with fail
    refine (partFit_yes fr tto _ HB.out.1.1 HB.out.1.2 HB.out.2.1 HB.out.2.2).mono ?_
    rintro e w1' ⟨rfl, rfl⟩
    go_wp2_with fail
    refine (columnsOf_apart S B _ _ _ _ HE.out.2.2.1 HZ.out.2.1 HZ.out.2.2.1 HZ.out.2.2.2 HZ.out.1).mono ?_
    rintro e w2 ⟨b, g, u1, u2, rfl, hC, hap, q1⟩
    clear p0 p1 p2 r0 r1 r2 r3 f0 f1 f2 f3
    have HC : Hid (Cols w2 w1'.heap.size b S.nc (cellM S S.nc) S.nl S.l S.nw S.k g u1 u2 ∧ ApartC b g u1 u2) := ⟨hC, hap⟩
    have zw : Hid (w.heap.size + 2 ≤ w1'.heap.size) := HE.out.2.1.lt
    have HE : Hid (CallSto w B S (.slice a0 S.nc c0) (.slice a1 S.nl c1) (.slice a2 S.nw c2) w2) := HE.out.later q1
    clear q1 hC hap
    go_wp2_with fail
    refine (keepKeys_is _ b _ _ _ _ _ _ g u1 u2 fr tto _ HC.out.1 HC.out.2 HZ.out.2.2.1 HZ.out.2.2.2).mono ?_
    rintro e w3 ⟨rfl, ⟨y1, y2, hC3⟩, hb3⟩
    have HC3 : Hid (Cols w3 w1'.heap.size b S.nc (inM (cellM S S.nc) fr tto) (selD S.l 5 (outD fr tto) S.nl).length (fun p => (selD S.l 5 (outD fr tto) S.nl).flatten.getD p 0) (selD S.k 4 (outD fr tto) S.nw).length (fun p => (selD S.k 4 (outD fr tto) S.nw).flatten.getD p 0) g y1 y2) := hC3
    have HR3 : Hid (Blk4 w3 (w.heap.size + 1) (.int .i64 0) (.slice none 0 0) (.slice none 0 0) (.slice none 0 0) ∧ Below w.heap.size w w3) := ⟨HE.out.2.1.kept (hb3.block (w.heap.size + 1) (by have := zw.out; omega)), HE.out.2.2.2.trans (hb3.mono (by have := zw.out; omega))⟩
    have z3 : Hid (w.heap.size + 2 ≤ w3.heap.size) := HR3.out.1.lt
    clear hC3 hb3 HE HC
    go_wp2_with fail
    refine (HP.out b g w3 _ y1 y2 HC3.out).mono ?_
    rintro e w4 ⟨d0, e0, d1, e1, d2, e2, rfl, ⟨s3, f3', a3⟩, q4⟩
    have S3 : Hid ((St w4 (w.heap.size + 2) R (.slice d0 R.nc e0) (.slice d1 R.nl e1) (.slice d2 R.nw e2) ∧ FreeS w4 R (.slice d0 R.nc e0) (.slice d1 R.nl e1) (.slice d2 R.nw e2)) ∧ ApartD R (.slice d0 R.nc e0) (.slice d1 R.nl e1) (.slice d2 R.nw e2)) := ⟨⟨s3.mono z3.out, f3'⟩, a3⟩
    have HBW : Hid (Below w.heap.size w w4) := HR3.out.2.trans (q4.mono HR3.out.2.size)
    obtain ⟨⟨r0, r1, r2, r3⟩, f0, f1, f2, f3⟩ := HR3.out.1.later q4
    clear s3 f3' a3 q4 HC3
    have hlo : (w.heap.size + 1 : Nat) < w.heap.size + 2 := Nat.lt_succ_self _
    go_wp2
    exact bodyPost_ret (v := .agg #[.int .i64 0, .slice d0 R.nc e0, .slice d1 R.nl e1, .slice d2 R.nw e2]) (by simp [results, Tryz.results6, go_sem, r0, r1, r2, r3]) rfl ⟨d0, e0, d1, e1, d2, e2, rfl, ⟨((((S3.out.1.1.far hlo _).far hlo _).far hlo _).far hlo _).mono (by omega), (((S3.out.1.2.far _ _).far _ _).far _ _).far _ _, S3.out.2⟩, (((HBW.out.setCell (Nat.le_succ _) _).setCell (Nat.le_succ _) _).setCell (Nat.le_succ _) _).setCell (Nat.le_succ _) _⟩
end Go.Proofs.YtgedodcojalidaaGreat

namespace Go.Proofs.YtgedodcojalidaaGreat
open Go.RowKit

/-- A row of two rows of structs. -/
structure Twin (w : World) (g B m : Nat) (n0 n1 : Nat) (F0 F1 : Nat → Int) (a0 a1 : Option Addr) (c0 c1 : Nat) : Prop where
  r0 : Row w B m n0 F0 (.slice a0 n0 c0)
  r1 : Row w B m n1 F1 (.slice a1 n1 c1)
  b0 : w.cell? ⟨g, 0, none⟩ = some (.slice a0 n0 c0)
  b1 : w.cell? ⟨g, 1, none⟩ = some (.slice a1 n1 c1)
theorem Twin.later {w w' : World} {g B m n0 n1 : Nat} {F0 F1 : Nat → Int} {a0 a1 : Option Addr} {c0 c1 : Nat} (h : Twin w g B m n0 n1 F0 F1 a0 a1 c0 c1) (hb : Below w.heap.size w w') : Twin w' g B m n0 n1 F0 F1 a0 a1 c0 c1 :=
  ⟨h.r0.later hb, h.r1.later hb, (hb.cell (p := ⟨g, 0, none⟩) (World.block_lt_of_cell? w _ h.b0)).trans h.b0, (hb.cell (p := ⟨g, 1, none⟩) (World.block_lt_of_cell? w _ h.b1)).trans h.b1⟩
/-- An append of zeros to nothing, and none of them told: an empty row with room. -/
theorem own_zeros (w : World) (e : TypeId) (m n c : Nat) (cs : Array Value) (hm : c ≤ maxLen) (hs : cs.size = c * m) (_ : n ≤ c) : OwnM (w.drew.alloc (.cells cs e)) w.heap.size e m (.slice (some ⟨w.heap.size, 0, none⟩) 0 c) 0 [] :=
  World.ownsRow_made w.drew cs c (Nat.le_refl _) hm hs
set_option maxHeartbeats 2000000 in
theorem growCell_any (n : Nat) (hn : n ≤ 400) (w : World) :
    Calls Tryz.prog 77 #[.slice none 0 0, .int .i64 n] w fun e w' => ∃ ao cp, e = .returned (.slice ao 0 cp) ∧ OwnM w' w.heap.size 59 3 (.slice ao 0 cp) 0 [] ∧ Below w.heap.size w w' := by
  obtain ⟨i0, hi0, hz0, hzs, hzb⟩ := info_parts info_Cell
  rcases Nat.eq_zero_or_pos n with e | e
  · subst e
    go_enter Tryz.func77, Tryz.ntmps77
    go_wp2
    go_ret
    exact ⟨none, 0, rfl, OwnM.nil _ _ _ _, Below.refl _ _⟩
  · have hd0 : decide ((n : Int) < 0) = false := decide_eq_false (by omega)
    have hd1 : decide ((0 : Int) < (n : Int)) = true := decide_eq_true (by omega)
    have hap : ∀ ty, ∃ cp cs, (cp ≤ maxLen ∧ cs.size = cp * 3 ∧ n ≤ cp) ∧ (Builtin.append_ #[24, 3] ty #[.slice none 0 0, .int .i64 (n : Int)]).run Tryz.prog w = .ok (.slice (some ⟨w.heap.size, 0, none⟩) n cp) (w.drew.alloc (.cells cs 59)) := fun ty => by
      have h := Lib.run_append_nil_zeros w 24 3 ty 59 i0 _ .i64 .i64 Tryz.underlying24 (by kernel_rfl) hi0 hz0 n e (by omega) (by omega) (by rw [hzb]; omega)
      have hG1 := grownCap_ge w n 0 59
      have hG2 := grownCap_le_maxLen w n 0 59 (by unfold maxLen; omega)
      refine ⟨_, _, ⟨hG2, ?_, hG1⟩, h⟩
      simp [Builtin.zeroCells, Value.cells]
      omega
    obtain ⟨cp, cs, hc, hr⟩ := hap 24
    clear hap
    go_enter Tryz.func77, Tryz.ntmps77
    go_wp2_with (at_builtin; refine Lib.wpList_append_run _ rfl _ _ _ _ rfl _ _ rfl rfl _ _ hr ?_)
    go_ret
    exact ⟨_, cp, rfl, own_zeros w 59 3 n cp cs hc.1 hc.2.1 hc.2.2, (Below.refl _ _).drew.alloc (Nat.le_refl _) _⟩
set_option maxHeartbeats 2000000 in
theorem growLock_any (n : Nat) (hn : n ≤ 400) (w : World) :
    Calls Tryz.prog 78 #[.slice none 0 0, .int .i64 n] w fun e w' => ∃ ao cp, e = .returned (.slice ao 0 cp) ∧ OwnM w' w.heap.size 62 5 (.slice ao 0 cp) 0 [] ∧ Below w.heap.size w w' := by
  obtain ⟨i0, hi0, hz0, hzs, hzb⟩ := info_parts info_Lock
  rcases Nat.eq_zero_or_pos n with e | e
  · subst e
    go_enter Tryz.func78, Tryz.ntmps78
    go_wp2
    go_ret
    exact ⟨none, 0, rfl, OwnM.nil _ _ _ _, Below.refl _ _⟩
  · have hd0 : decide ((n : Int) < 0) = false := decide_eq_false (by omega)
    have hd1 : decide ((0 : Int) < (n : Int)) = true := decide_eq_true (by omega)
    have hap : ∀ ty, ∃ cp cs, (cp ≤ maxLen ∧ cs.size = cp * 5 ∧ n ≤ cp) ∧ (Builtin.append_ #[25, 3] ty #[.slice none 0 0, .int .i64 (n : Int)]).run Tryz.prog w = .ok (.slice (some ⟨w.heap.size, 0, none⟩) n cp) (w.drew.alloc (.cells cs 62)) := fun ty => by
      have h := Lib.run_append_nil_zeros w 25 3 ty 62 i0 _ .i64 .i64 Tryz.underlying25 (by kernel_rfl) hi0 hz0 n e (by omega) (by omega) (by rw [hzb]; omega)
      have hG1 := grownCap_ge w n 0 62
      have hG2 := grownCap_le_maxLen w n 0 62 (by unfold maxLen; omega)
      refine ⟨_, _, ⟨hG2, ?_, hG1⟩, h⟩
      simp [Builtin.zeroCells, Value.cells]
      omega
    obtain ⟨cp, cs, hc, hr⟩ := hap 25
    clear hap
    go_enter Tryz.func78, Tryz.ntmps78
    go_wp2_with (at_builtin; refine Lib.wpList_append_run _ rfl _ _ _ _ rfl _ _ rfl rfl _ _ hr ?_)
    go_ret
    exact ⟨_, cp, rfl, own_zeros w 62 5 n cp cs hc.1 hc.2.1 hc.2.2, (Below.refl _ _).drew.alloc (Nat.le_refl _) _⟩
set_option maxHeartbeats 2000000 in
theorem growWrite_any (n : Nat) (hn : n ≤ 400) (w : World) :
    Calls Tryz.prog 79 #[.slice none 0 0, .int .i64 n] w fun e w' => ∃ ao cp, e = .returned (.slice ao 0 cp) ∧ OwnM w' w.heap.size 36 4 (.slice ao 0 cp) 0 [] ∧ Below w.heap.size w w' := by
  obtain ⟨i0, hi0, hz0, hzs, hzb⟩ := info_parts info_Write
  rcases Nat.eq_zero_or_pos n with e | e
  · subst e
    go_enter Tryz.func79, Tryz.ntmps79
    go_wp2
    go_ret
    exact ⟨none, 0, rfl, OwnM.nil _ _ _ _, Below.refl _ _⟩
  · have hd0 : decide ((n : Int) < 0) = false := decide_eq_false (by omega)
    have hd1 : decide ((0 : Int) < (n : Int)) = true := decide_eq_true (by omega)
    have hap : ∀ ty, ∃ cp cs, (cp ≤ maxLen ∧ cs.size = cp * 4 ∧ n ≤ cp) ∧ (Builtin.append_ #[26, 3] ty #[.slice none 0 0, .int .i64 (n : Int)]).run Tryz.prog w = .ok (.slice (some ⟨w.heap.size, 0, none⟩) n cp) (w.drew.alloc (.cells cs 36)) := fun ty => by
      have h := Lib.run_append_nil_zeros w 26 3 ty 36 i0 _ .i64 .i64 Tryz.underlying26 (by kernel_rfl) hi0 hz0 n e (by omega) (by omega) (by rw [hzb]; omega)
      have hG1 := grownCap_ge w n 0 36
      have hG2 := grownCap_le_maxLen w n 0 36 (by unfold maxLen; omega)
      refine ⟨_, _, ⟨hG2, ?_, hG1⟩, h⟩
      simp [Builtin.zeroCells, Value.cells]
      omega
    obtain ⟨cp, cs, hc, hr⟩ := hap 26
    clear hap
    go_enter Tryz.func79, Tryz.ntmps79
    go_wp2_with (at_builtin; refine Lib.wpList_append_run _ rfl _ _ _ _ rfl _ _ rfl rfl _ _ hr ?_)
    go_ret
    exact ⟨_, cp, rfl, own_zeros w 36 4 n cp cs hc.1 hc.2.1 hc.2.2, (Below.refl _ _).drew.alloc (Nat.le_refl _) _⟩
set_option maxHeartbeats 4000000 in
set_option maxRecDepth 100000 in
theorem concatCell_any (g B n0 n1 : Nat) (F0 F1 : Nat → Int) (a0 a1 : Option Addr) (c0 c1 : Nat) (w : World) (h : Twin w g B 3 n0 n1 F0 F1 a0 a1 c0 c1) (h0 : n0 ≤ 200) (h1 : n1 ≤ 200) :
    Calls Tryz.prog 47 #[.slice (some ⟨g, 0, none⟩) 2 2] w fun e w' => ∃ ao cp, e = .returned (.slice ao (n0 + n1) cp) ∧ OwnM w' w.heap.size 59 3 (.slice ao (n0 + n1) cp) (n0 + n1) (nums F0 (n0 * 3) ++ nums F1 (n1 * 3)) ∧ Below w.heap.size w w' := by
  have H : Hid (Twin w g B 3 n0 n1 F0 F1 a0 a1 c0 c1) := h
  obtain ⟨_, _, b0, b1⟩ := h
  have d0 : decide ((n0 : Int) < 0) = false := decide_eq_false (by omega)
  have d1 : decide ((n0 : Int) + (n1 : Int) < 0) = false := decide_eq_false (by omega)
  go_enter Tryz.func47, Tryz.ntmps47
  go_wp2
  go_loopw [11, 3, 5] (fun i s u wr => wr = w ∧ ((i = .int .i64 0 ∧ s = .int .i64 0) ∨ (i = .int .i64 1 ∧ s = .int .i64 n0) ∨ (i = .int .i64 2 ∧ s = .int .i64 ((n0 + n1 : Nat) : Int)))) (fun i _ _ _ => 2 - (intOf i).toNat)
  case atStart => exact ⟨rfl, Or.inl ⟨rfl, rfl⟩⟩
  case round =>
    obtain ⟨rfl, ⟨rfl, rfl⟩ | ⟨rfl, rfl⟩ | ⟨rfl, rfl⟩⟩ := hrel
    · go_wp2
      go_roundw
      case rel => exact ⟨trivial, Or.inr (Or.inl ⟨rfl, by simp⟩)⟩
      case measure => simp [intOf]
    · go_wp2
      go_roundw
      case rel => exact ⟨trivial, Or.inr (Or.inr ⟨rfl, by simp⟩)⟩
      case measure => simp [intOf]
    · clear d0 d1 b0 b1
      go_wp2_with fail
      refine (growCell_any (n0 + n1) (by omega) wr).mono ?_
      rintro e w1 ⟨ao, cp, rfl, O1, q1⟩
      have OX : Hid (OwnM w1 wr.heap.size 59 3 (.slice ao 0 cp) 0 [] ∧ Below wr.heap.size wr w1) := ⟨O1, q1⟩
      clear O1 q1
      obtain ⟨w, rfl⟩ : ∃ x, x = wr := ⟨_, rfl⟩
      go_wp2
      go_loopw [27, 6, 8] (fun i s u x => ∃ (k p : Nat) (ao : Option Addr) (cp : Nat) (L : List Int), (k = 0 ∧ p = 0 ∧ L = [] ∨ k = 1 ∧ n0 = p ∧ L = nums F0 (n0 * 3) ∨ k = 2 ∧ p = n0 + n1 ∧ L = nums F0 (n0 * 3) ++ nums F1 (n1 * 3)) ∧ i = .int .i64 k ∧ s = .slice ao p cp ∧ Hid (OwnM x w.heap.size 59 3 (.slice ao p cp) p L ∧ Below w.heap.size w x)) (fun i _ _ _ => 2 - (intOf i).toNat)
      case atStart => exact ⟨0, 0, _, _, [], Or.inl ⟨rfl, rfl, rfl⟩, rfl, rfl, OX⟩
      case round =>
        obtain ⟨k, p, ao, cp, L, hk, rfl, rfl, HO⟩ := hrel
        have HT : Hid (Twin wr g B 3 n0 n1 F0 F1 a0 a1 c0 c1) := H.out.later HO.out.2
        obtain ⟨_, _, b0, b1⟩ := HT.out
        rcases hk with ⟨rfl, rfl, rfl⟩ | ⟨rfl, rfl, rfl⟩ | ⟨rfl, rfl, rfl⟩
        · obtain ⟨i0, hi, hz0, hz1, hz2⟩ := info_parts info_Cell
          go_wp2_with (at_builtin; refine wpList_app 59 i0 (.agg #[.int .i64 0, .int .i64 0, .int .i64 0]) 3 24 rfl _ _ 24 rfl Tryz.underlying24 hi hz0 hz1 hz2 rfl (by omega) (by omega) _ w.heap.size 0 [] (.slice ao 0 cp) rfl HO.out.1 B n0 F0 (.slice a0 n0 c0) rfl HT.out.r0 (by omega) HO.out.2.size ?_; intro ao1 cp1 w2 O2 G2)
          have OY : Hid (OwnM w2 w.heap.size 59 3 (.slice ao1 n0 cp1) n0 (nums F0 (n0 * 3)) ∧ Below w.heap.size w w2) := ⟨by rw [Nat.zero_add, List.nil_append] at O2; exact O2, below_grownBy HO.out.2 HO.out.2.size (fun q e => (HO.out.1.block q e).1) G2⟩
          clear O2 G2
          go_wp2
          go_roundw
          case rel => exact ⟨1, n0, ao1, cp1, _, Or.inr (Or.inl ⟨rfl, rfl, rfl⟩), rfl, by simp, OY⟩
          case measure => simp [intOf]
        · obtain ⟨i0, hi, hz0, hz1, hz2⟩ := info_parts info_Cell
          go_wp2_with (at_builtin; refine wpList_app 59 i0 (.agg #[.int .i64 0, .int .i64 0, .int .i64 0]) 3 24 rfl _ _ 24 rfl Tryz.underlying24 hi hz0 hz1 hz2 rfl (by omega) (by omega) _ w.heap.size n0 (nums F0 (n0 * 3)) (.slice ao n0 cp) rfl HO.out.1 B n1 F1 (.slice a1 n1 c1) rfl HT.out.r1 (by omega) HO.out.2.size ?_; intro ao1 cp1 w2 O2 G2)
          have OY : Hid (OwnM w2 w.heap.size 59 3 (.slice ao1 (n0 + n1) cp1) (n0 + n1) (nums F0 (n0 * 3) ++ nums F1 (n1 * 3)) ∧ Below w.heap.size w w2) := ⟨O2, below_grownBy HO.out.2 HO.out.2.size (fun q e => (HO.out.1.block q e).1) G2⟩
          clear O2 G2
          go_wp2
          go_roundw
          case rel => exact ⟨2, n0 + n1, ao1, cp1, _, Or.inr (Or.inr ⟨rfl, rfl, rfl⟩), rfl, rfl, OY⟩
          case measure => simp [intOf]
        · go_wp2
          go_ret
          exact ⟨ao, cp, rfl, HO.out.1, HO.out.2⟩
set_option maxHeartbeats 4000000 in
set_option maxRecDepth 100000 in
theorem concatLock_any (g B n0 n1 : Nat) (F0 F1 : Nat → Int) (a0 a1 : Option Addr) (c0 c1 : Nat) (w : World) (h : Twin w g B 5 n0 n1 F0 F1 a0 a1 c0 c1) (h0 : n0 ≤ 200) (h1 : n1 ≤ 200) :
    Calls Tryz.prog 48 #[.slice (some ⟨g, 0, none⟩) 2 2] w fun e w' => ∃ ao cp, e = .returned (.slice ao (n0 + n1) cp) ∧ OwnM w' w.heap.size 62 5 (.slice ao (n0 + n1) cp) (n0 + n1) (nums F0 (n0 * 5) ++ nums F1 (n1 * 5)) ∧ Below w.heap.size w w' := by
  have H : Hid (Twin w g B 5 n0 n1 F0 F1 a0 a1 c0 c1) := h
  obtain ⟨_, _, b0, b1⟩ := h
  have d0 : decide ((n0 : Int) < 0) = false := decide_eq_false (by omega)
  have d1 : decide ((n0 : Int) + (n1 : Int) < 0) = false := decide_eq_false (by omega)
  go_enter Tryz.func48, Tryz.ntmps48
  go_wp2
  go_loopw [11, 3, 5] (fun i s u wr => wr = w ∧ ((i = .int .i64 0 ∧ s = .int .i64 0) ∨ (i = .int .i64 1 ∧ s = .int .i64 n0) ∨ (i = .int .i64 2 ∧ s = .int .i64 ((n0 + n1 : Nat) : Int)))) (fun i _ _ _ => 2 - (intOf i).toNat)
  case atStart => exact ⟨rfl, Or.inl ⟨rfl, rfl⟩⟩
  case round =>
    obtain ⟨rfl, ⟨rfl, rfl⟩ | ⟨rfl, rfl⟩ | ⟨rfl, rfl⟩⟩ := hrel
    · go_wp2
      go_roundw
      case rel => exact ⟨trivial, Or.inr (Or.inl ⟨rfl, by simp⟩)⟩
      case measure => simp [intOf]
    · go_wp2
      go_roundw
      case rel => exact ⟨trivial, Or.inr (Or.inr ⟨rfl, by simp⟩)⟩
      case measure => simp [intOf]
    · clear d0 d1 b0 b1
      go_wp2_with fail
      refine (growLock_any (n0 + n1) (by omega) wr).mono ?_
      rintro e w1 ⟨ao, cp, rfl, O1, q1⟩
      have OX : Hid (OwnM w1 wr.heap.size 62 5 (.slice ao 0 cp) 0 [] ∧ Below wr.heap.size wr w1) := ⟨O1, q1⟩
      clear O1 q1
      obtain ⟨w, rfl⟩ : ∃ x, x = wr := ⟨_, rfl⟩
      go_wp2
      go_loopw [27, 6, 8] (fun i s u x => ∃ (k p : Nat) (ao : Option Addr) (cp : Nat) (L : List Int), (k = 0 ∧ p = 0 ∧ L = [] ∨ k = 1 ∧ n0 = p ∧ L = nums F0 (n0 * 5) ∨ k = 2 ∧ p = n0 + n1 ∧ L = nums F0 (n0 * 5) ++ nums F1 (n1 * 5)) ∧ i = .int .i64 k ∧ s = .slice ao p cp ∧ Hid (OwnM x w.heap.size 62 5 (.slice ao p cp) p L ∧ Below w.heap.size w x)) (fun i _ _ _ => 2 - (intOf i).toNat)
      case atStart => exact ⟨0, 0, _, _, [], Or.inl ⟨rfl, rfl, rfl⟩, rfl, rfl, OX⟩
      case round =>
        obtain ⟨k, p, ao, cp, L, hk, rfl, rfl, HO⟩ := hrel
        have HT : Hid (Twin wr g B 5 n0 n1 F0 F1 a0 a1 c0 c1) := H.out.later HO.out.2
        obtain ⟨_, _, b0, b1⟩ := HT.out
        rcases hk with ⟨rfl, rfl, rfl⟩ | ⟨rfl, rfl, rfl⟩ | ⟨rfl, rfl, rfl⟩
        · obtain ⟨i0, hi, hz0, hz1, hz2⟩ := info_parts info_Lock
          go_wp2_with (at_builtin; refine wpList_app 62 i0 (.agg #[.int .i64 0, .int .i64 0, .int .i64 0, .int .i64 0, .int .i64 0]) 5 40 rfl _ _ 25 rfl Tryz.underlying25 hi hz0 hz1 hz2 rfl (by omega) (by omega) _ w.heap.size 0 [] (.slice ao 0 cp) rfl HO.out.1 B n0 F0 (.slice a0 n0 c0) rfl HT.out.r0 (by omega) HO.out.2.size ?_; intro ao1 cp1 w2 O2 G2)
          have OY : Hid (OwnM w2 w.heap.size 62 5 (.slice ao1 n0 cp1) n0 (nums F0 (n0 * 5)) ∧ Below w.heap.size w w2) := ⟨by rw [Nat.zero_add, List.nil_append] at O2; exact O2, below_grownBy HO.out.2 HO.out.2.size (fun q e => (HO.out.1.block q e).1) G2⟩
          clear O2 G2
          go_wp2
          go_roundw
          case rel => exact ⟨1, n0, ao1, cp1, _, Or.inr (Or.inl ⟨rfl, rfl, rfl⟩), rfl, by simp, OY⟩
          case measure => simp [intOf]
        · obtain ⟨i0, hi, hz0, hz1, hz2⟩ := info_parts info_Lock
          go_wp2_with (at_builtin; refine wpList_app 62 i0 (.agg #[.int .i64 0, .int .i64 0, .int .i64 0, .int .i64 0, .int .i64 0]) 5 40 rfl _ _ 25 rfl Tryz.underlying25 hi hz0 hz1 hz2 rfl (by omega) (by omega) _ w.heap.size n0 (nums F0 (n0 * 5)) (.slice ao n0 cp) rfl HO.out.1 B n1 F1 (.slice a1 n1 c1) rfl HT.out.r1 (by omega) HO.out.2.size ?_; intro ao1 cp1 w2 O2 G2)
          have OY : Hid (OwnM w2 w.heap.size 62 5 (.slice ao1 (n0 + n1) cp1) (n0 + n1) (nums F0 (n0 * 5) ++ nums F1 (n1 * 5)) ∧ Below w.heap.size w w2) := ⟨O2, below_grownBy HO.out.2 HO.out.2.size (fun q e => (HO.out.1.block q e).1) G2⟩
          clear O2 G2
          go_wp2
          go_roundw
          case rel => exact ⟨2, n0 + n1, ao1, cp1, _, Or.inr (Or.inr ⟨rfl, rfl, rfl⟩), rfl, rfl, OY⟩
          case measure => simp [intOf]
        · go_wp2
          go_ret
          exact ⟨ao, cp, rfl, HO.out.1, HO.out.2⟩
set_option maxHeartbeats 4000000 in
set_option maxRecDepth 100000 in
theorem concatWrite_any (g B n0 n1 : Nat) (F0 F1 : Nat → Int) (a0 a1 : Option Addr) (c0 c1 : Nat) (w : World) (h : Twin w g B 4 n0 n1 F0 F1 a0 a1 c0 c1) (h0 : n0 ≤ 200) (h1 : n1 ≤ 200) :
    Calls Tryz.prog 49 #[.slice (some ⟨g, 0, none⟩) 2 2] w fun e w' => ∃ ao cp, e = .returned (.slice ao (n0 + n1) cp) ∧ OwnM w' w.heap.size 36 4 (.slice ao (n0 + n1) cp) (n0 + n1) (nums F0 (n0 * 4) ++ nums F1 (n1 * 4)) ∧ Below w.heap.size w w' := by
  have H : Hid (Twin w g B 4 n0 n1 F0 F1 a0 a1 c0 c1) := h
  obtain ⟨_, _, b0, b1⟩ := h
  have d0 : decide ((n0 : Int) < 0) = false := decide_eq_false (by omega)
  have d1 : decide ((n0 : Int) + (n1 : Int) < 0) = false := decide_eq_false (by omega)
  go_enter Tryz.func49, Tryz.ntmps49
  go_wp2
  go_loopw [11, 3, 5] (fun i s u wr => wr = w ∧ ((i = .int .i64 0 ∧ s = .int .i64 0) ∨ (i = .int .i64 1 ∧ s = .int .i64 n0) ∨ (i = .int .i64 2 ∧ s = .int .i64 ((n0 + n1 : Nat) : Int)))) (fun i _ _ _ => 2 - (intOf i).toNat)
  case atStart => exact ⟨rfl, Or.inl ⟨rfl, rfl⟩⟩
  case round =>
    obtain ⟨rfl, ⟨rfl, rfl⟩ | ⟨rfl, rfl⟩ | ⟨rfl, rfl⟩⟩ := hrel
    · go_wp2
      go_roundw
      case rel => exact ⟨trivial, Or.inr (Or.inl ⟨rfl, by simp⟩)⟩
      case measure => simp [intOf]
    · go_wp2
      go_roundw
      case rel => exact ⟨trivial, Or.inr (Or.inr ⟨rfl, by simp⟩)⟩
      case measure => simp [intOf]
    · clear d0 d1 b0 b1
      go_wp2_with fail
      refine (growWrite_any (n0 + n1) (by omega) wr).mono ?_
      rintro e w1 ⟨ao, cp, rfl, O1, q1⟩
      have OX : Hid (OwnM w1 wr.heap.size 36 4 (.slice ao 0 cp) 0 [] ∧ Below wr.heap.size wr w1) := ⟨O1, q1⟩
      clear O1 q1
      obtain ⟨w, rfl⟩ : ∃ x, x = wr := ⟨_, rfl⟩
      go_wp2
      go_loopw [27, 6, 8] (fun i s u x => ∃ (k p : Nat) (ao : Option Addr) (cp : Nat) (L : List Int), (k = 0 ∧ p = 0 ∧ L = [] ∨ k = 1 ∧ n0 = p ∧ L = nums F0 (n0 * 4) ∨ k = 2 ∧ p = n0 + n1 ∧ L = nums F0 (n0 * 4) ++ nums F1 (n1 * 4)) ∧ i = .int .i64 k ∧ s = .slice ao p cp ∧ Hid (OwnM x w.heap.size 36 4 (.slice ao p cp) p L ∧ Below w.heap.size w x)) (fun i _ _ _ => 2 - (intOf i).toNat)
      case atStart => exact ⟨0, 0, _, _, [], Or.inl ⟨rfl, rfl, rfl⟩, rfl, rfl, OX⟩
      case round =>
        obtain ⟨k, p, ao, cp, L, hk, rfl, rfl, HO⟩ := hrel
        have HT : Hid (Twin wr g B 4 n0 n1 F0 F1 a0 a1 c0 c1) := H.out.later HO.out.2
        obtain ⟨_, _, b0, b1⟩ := HT.out
        rcases hk with ⟨rfl, rfl, rfl⟩ | ⟨rfl, rfl, rfl⟩ | ⟨rfl, rfl, rfl⟩
        · obtain ⟨i0, hi, hz0, hz1, hz2⟩ := info_parts info_Write
          go_wp2_with (at_builtin; refine wpList_app 36 i0 (.agg #[.int .i64 0, .int .i64 0, .int .i64 0, .int .i64 0]) 4 32 rfl _ _ 26 rfl Tryz.underlying26 hi hz0 hz1 hz2 rfl (by omega) (by omega) _ w.heap.size 0 [] (.slice ao 0 cp) rfl HO.out.1 B n0 F0 (.slice a0 n0 c0) rfl HT.out.r0 (by omega) HO.out.2.size ?_; intro ao1 cp1 w2 O2 G2)
          have OY : Hid (OwnM w2 w.heap.size 36 4 (.slice ao1 n0 cp1) n0 (nums F0 (n0 * 4)) ∧ Below w.heap.size w w2) := ⟨by rw [Nat.zero_add, List.nil_append] at O2; exact O2, below_grownBy HO.out.2 HO.out.2.size (fun q e => (HO.out.1.block q e).1) G2⟩
          clear O2 G2
          go_wp2
          go_roundw
          case rel => exact ⟨1, n0, ao1, cp1, _, Or.inr (Or.inl ⟨rfl, rfl, rfl⟩), rfl, by simp, OY⟩
          case measure => simp [intOf]
        · obtain ⟨i0, hi, hz0, hz1, hz2⟩ := info_parts info_Write
          go_wp2_with (at_builtin; refine wpList_app 36 i0 (.agg #[.int .i64 0, .int .i64 0, .int .i64 0, .int .i64 0]) 4 32 rfl _ _ 26 rfl Tryz.underlying26 hi hz0 hz1 hz2 rfl (by omega) (by omega) _ w.heap.size n0 (nums F0 (n0 * 4)) (.slice ao n0 cp) rfl HO.out.1 B n1 F1 (.slice a1 n1 c1) rfl HT.out.r1 (by omega) HO.out.2.size ?_; intro ao1 cp1 w2 O2 G2)
          have OY : Hid (OwnM w2 w.heap.size 36 4 (.slice ao1 (n0 + n1) cp1) (n0 + n1) (nums F0 (n0 * 4) ++ nums F1 (n1 * 4)) ∧ Below w.heap.size w w2) := ⟨O2, below_grownBy HO.out.2 HO.out.2.size (fun q e => (HO.out.1.block q e).1) G2⟩
          clear O2 G2
          go_wp2
          go_roundw
          case rel => exact ⟨2, n0 + n1, ao1, cp1, _, Or.inr (Or.inr ⟨rfl, rfl, rfl⟩), rfl, rfl, OY⟩
          case measure => simp [intOf]
        · go_wp2
          go_ret
          exact ⟨ao, cp, rfl, HO.out.1, HO.out.2⟩
end Go.Proofs.YtgedodcojalidaaGreat

namespace Go.Proofs.YtgedodcojalidaaGreat
open Go.RowKit
/-- Row x and row y, by two numbers of each. -/
def Up2 (f g : List Int → Int) (x y : List Int) : Prop := Lt2 f g x y
instance (f g : List Int → Int) (x y : List Int) : Decidable (Up2 f g x y) := by unfold Up2 Lt2; exact inferInstance
theorem Up2.asym {f g : List Int → Int} {x y : List Int} (h : Up2 f g x y) : ¬ Up2 f g y x := by
  unfold Up2 Lt2 at *
  omega
theorem Up2.trans {f g : List Int → Int} {x y z : List Int} (h : Up2 f g x y) (h' : Up2 f g y z) : Up2 f g x z := by
  unfold Up2 Lt2 at *
  omega
theorem Up2.neg {f g : List Int → Int} {x y z : List Int} (h : ¬ Up2 f g x y) (h' : ¬ Up2 f g y z) : ¬ Up2 f g x z := by
  unfold Up2 Lt2 at *
  omega
/-- None stands behind one that is above it. -/
def Weak (f g : List Int → Int) (L : List (List Int)) : Prop := L.Pairwise (fun x y => ¬ Up2 f g y x)
/-- One more in its place. -/
def insP (f g : List Int → Int) (x : List Int) : List (List Int) → List (List Int)
  | [] => [x]
  | y :: l => if Up2 f g y x then y :: insP f g x l else x :: y :: l
def insAll (f g : List Int → Int) (L : List (List Int)) : List (List Int) → List (List Int)
  | [] => L
  | x :: l => insAll f g (insP f g x L) l
theorem insP_perm (f g : List Int → Int) (x : List Int) : ∀ L, (insP f g x L).Perm (x :: L)
  | [] => List.Perm.refl _
  | y :: l => by
    unfold insP
    split
    · exact ((insP_perm f g x l).cons y).trans (List.Perm.swap x y l)
    · exact List.Perm.refl _
theorem insP_weak (f g : List Int → Int) (x : List Int) : ∀ {L : List (List Int)}, Weak f g L → Weak f g (insP f g x L)
  | [], _ => List.pairwise_singleton _ _
  | y :: l, h => by
    have h2 := List.pairwise_cons.1 h
    unfold insP
    split
    · rename_i hy
      refine List.pairwise_cons.2 ⟨fun z hz => ?_, insP_weak f g x h2.2⟩
      rcases List.mem_cons.1 ((insP_perm f g x l).mem_iff.1 hz) with e | e
      · subst e; exact hy.asym
      · exact h2.1 z e
    · rename_i hy
      refine List.pairwise_cons.2 ⟨fun z hz => ?_, h⟩
      rcases List.mem_cons.1 hz with e | e
      · subst e; exact hy
      · exact Up2.neg (h2.1 z e) hy
theorem insAll_perm (f g : List Int → Int) : ∀ (xs L), (insAll f g L xs).Perm (L ++ xs)
  | [], L => by rw [List.append_nil]; exact List.Perm.refl _
  | x :: l, L => by
    refine (insAll_perm f g l (insP f g x L)).trans ?_
    refine ((insP_perm f g x L).append_right l).trans ?_
    exact (List.perm_middle (l₁ := L) (l₂ := l) (a := x)).symm
theorem insAll_weak (f g : List Int → Int) : ∀ (xs : List (List Int)) {L : List (List Int)}, Weak f g L → Weak f g (insAll f g L xs)
  | [], _, h => h
  | x :: l, _, h => insAll_weak f g l (insP_weak f g x h)
theorem Weak.strict {f g : List Int → Int} {L : List (List Int)} : Weak f g L → L.Pairwise (fun x y => Up2 f g x y ∨ Up2 f g y x) → L.Pairwise (Up2 f g) := fun h h2 => by
  have := List.Pairwise.and h h2
  exact this.imp (fun {x y} q => q.2.resolve_right q.1)
theorem Weak.next {f g : List Int → Int} : ∀ {L : List (List Int)}, Weak f g L → ¬ L.Pairwise (Up2 f g) → ∃ i, i + 1 < L.length ∧ ¬ Up2 f g (L.getD i []) (L.getD (i + 1) [])
  | [], _, h => absurd List.Pairwise.nil h
  | [x], _, h => absurd (List.pairwise_singleton _ _) h
  | x :: y :: l, hw, h => by
    have hw2 := List.pairwise_cons.1 hw
    by_cases hxy : Up2 f g x y
    · by_cases h3 : (y :: l).Pairwise (Up2 f g)
      · refine absurd (List.pairwise_cons.2 ⟨fun z hz => ?_, h3⟩) h
        rcases List.mem_cons.1 hz with e | e
        · subst e; exact hxy
        · exact hxy.trans ((List.pairwise_cons.1 h3).1 z e)
      · obtain ⟨i, hi, q⟩ := Weak.next hw2.2 h3
        exact ⟨i + 1, by simpa using hi, by simpa using q⟩
    · exact ⟨0, by simp, by simpa using hxy⟩
/-- Two weakly rising lists of the same are one, or both have two that are alike. -/
theorem two_weak {f g : List Int → Int} {P M : List (List Int)} (hp : Weak f g P) (hm : Weak f g M) (h : P.Perm M) : P = M ∨ (∃ i, i + 1 < P.length ∧ ¬ Up2 f g (P.getD i []) (P.getD (i + 1) [])) ∧ ∃ i, i + 1 < M.length ∧ ¬ Up2 f g (M.getD i []) (M.getD (i + 1) []) := by
  have key : ∀ {P M : List (List Int)}, P.Perm M → Weak f g M → P.Pairwise (Up2 f g) → M.Pairwise (Up2 f g) := fun {P M} h hm hs => by
    refine hm.strict ?_
    exact (h.pairwise_iff (fun {x y} q => q.symm)).1 (hs.imp (fun q => Or.inl q))
  by_cases hs : P.Pairwise (Up2 f g)
  · exact Or.inl (perm_strict (fun _ _ h => h.asym) h hs (key h hm hs))
  · exact Or.inr ⟨hp.next hs, hm.next (fun q => hs (key h.symm hp q))⟩
/-- The numbers of rows, one behind the other. -/
def flatF (L : List (List Int)) : Nat → Int := fun p => L.flatten.getD p 0
theorem flatF_at {m : Nat} {L : List (List Int)} (hL : ∀ t ∈ L, t.length = m) {i q : Nat} (hi : i < L.length) (hq : q < m) : flatF L (i * m + q) = (L.getD i []).getD q 0 := by
  have hm : 0 < m := by omega
  have hlt : i * m + q < L.length * m := by
    calc i * m + q < i * m + m := by omega
      _ = (i + 1) * m := by rw [Nat.succ_mul]
      _ ≤ L.length * m := Nat.mul_le_mul_right m hi
  have e := flat_get (m := m) L (i * m + q) hL hlt
  have d1 : (i * m + q) / m = i := by rw [Nat.mul_comm, Nat.mul_add_div hm, Nat.div_eq_of_lt hq, Nat.add_zero]
  have d2 : (i * m + q) % m = q := by rw [Nat.mul_comm, Nat.mul_add_mod, Nat.mod_eq_of_lt hq]
  rw [d1, d2] at e
  exact e
/-- The rows of a row in memory. -/
def listF (m n : Nat) (F : Nat → Int) : List (List Int) := (List.range n).map (struD F m)
theorem listF_len (m n : Nat) (F : Nat → Int) : (listF m n F).length = n := by simp [listF]
theorem listF_mem {m n : Nat} {F : Nat → Int} {x : List Int} (h : x ∈ listF m n F) : ∃ i, i < n ∧ x = struD F m i := by
  obtain ⟨i, hi, e⟩ := List.mem_map.1 h
  exact ⟨i, List.mem_range.1 hi, e.symm⟩
theorem listF_all {m n : Nat} {F : Nat → Int} : ∀ t ∈ listF m n F, t.length = m := fun t ht => by
  obtain ⟨i, _, rfl⟩ := listF_mem ht
  exact struD_len F m i
theorem listF_at {m n : Nat} {F : Nat → Int} {i : Nat} (hi : i < n) : (listF m n F).getD i [] = struD F m i := by
  simp [listF, hi]
theorem listF_flat {m n : Nat} {F : Nat → Int} (hm : 0 < m) {p : Nat} (hp : p < n * m) : flatF (listF m n F) p = F p := by
  have hd : p / m < n := by rw [Nat.div_lt_iff_lt_mul hm]; exact hp
  have e := flatF_at (m := m) (L := listF m n F) listF_all (i := p / m) (q := p % m) (by rw [listF_len]; exact hd) (Nat.mod_lt _ hm)
  rw [listF_at hd, struD_get _ _ _ _ (Nat.mod_lt _ hm)] at e
  have e2 : p / m * m + p % m = p := by rw [Nat.mul_comm]; exact Nat.div_add_mod p m
  rw [e2] at e
  exact e
theorem getD_mem {L : List (List Int)} {i : Nat} (hi : i < L.length) : L.getD i [] ∈ L := by
  rw [List.getD_eq_getElem?_getD, List.getElem?_eq_getElem hi]
  exact List.getElem_mem hi
theorem scan_bits {G : Nat → Int} : ∀ {n : Nat}, (∀ i, i < n → G i = 0 ∨ G i = 1) → (∃ i, i < n ∧ G i = 1) → scan G n = 1
  | 0, _, h => by obtain ⟨i, hi, _⟩ := h; omega
  | n + 1, hb, h => by
    by_cases e : ∃ i, i < n ∧ G i = 1
    · have := scan_bits (n := n) (fun i hi => hb i (by omega)) e
      rw [scan, this, if_neg (by decide)]
    · obtain ⟨i, hi, h1⟩ := h
      obtain rfl : i = n := by
        rcases Nat.lt_or_ge i n with q | q
        · exact absurd ⟨i, q, h1⟩ e
        · omega
      have h0 : scan G i = 0 := by
        have : ∀ k, k ≤ i → scan G k = 0 := fun k => by
          induction k with
          | zero => exact fun _ => rfl
          | succ k ih =>
            intro hk
            refine scan_go (ih (by omega)) ?_
            rcases hb k (by omega) with q | q
            · exact q
            · exact absurd ⟨k, by omega, q⟩ e
        exact this i (Nat.le_refl _)
      rw [scan, h0, if_pos rfl, h1]
def k0 (x : List Int) : Int := x.getD 0 0
def k1 (x : List Int) : Int := x.getD 1 0
def kN (_ : List Int) : Int := 0
def goodC (x : List Int) : Prop := faultOf (x.getD 0 0) = 0 ∧ 1 ≤ x.getD 1 0 ∧ x.getD 1 0 ≤ 100000 ∧ 0 ≤ x.getD 2 0 ∧ x.getD 2 0 ≤ 9999
def goodL (x : List Int) : Prop := faultOf (x.getD 0 0) = 0 ∧ faultOf (x.getD 3 0) = 0 ∧ 1 ≤ x.getD 1 0 ∧ x.getD 1 0 ≤ 100000 ∧ 1 ≤ x.getD 2 0 ∧ x.getD 2 0 ≤ 3 ∧ 0 ≤ x.getD 4 0 ∧ x.getD 4 0 ≤ 100000
def goodW (x : List Int) : Prop := faultOf (x.getD 0 0) = 0 ∧ (1 ≤ x.getD 1 0 ∧ x.getD 1 0 ≤ 100000 ∧ 1 ≤ x.getD 2 0 ∧ x.getD 2 0 ≤ 100000 ∧ 1 ≤ x.getD 3 0 ∧ x.getD 3 0 ≤ 4) ∧ (x.getD 3 0 = 4 → x.getD 1 0 = x.getD 2 0) ∧ (x.getD 3 0 ≠ 4 → x.getD 2 0 < x.getD 1 0)
theorem cellF_list {L : List (List Int)} (hl : ∀ t ∈ L, t.length = 3) (hg : ∀ t ∈ L, goodC t) {i : Nat} (hi : i < L.length) : cellF (flatF L) i = if 0 < i ∧ ¬ Up2 k0 k1 (L.getD (i - 1) []) (L.getD i []) then 1 else 0 := by
  have hx := hg _ (getD_mem hi)
  have e0 : flatF L (i * 3) = (L.getD i []).getD 0 0 := flatF_at hl hi (by omega : 0 < 3)
  have e1 : flatF L (i * 3 + 1) = (L.getD i []).getD 1 0 := flatF_at hl hi (by omega)
  have e2 : flatF L (i * 3 + 2) = (L.getD i []).getD 2 0 := flatF_at hl hi (by omega)
  have f0 : flatF L ((i - 1) * 3) = (L.getD (i - 1) []).getD 0 0 := flatF_at hl (by omega) (by omega : 0 < 3)
  have f1 : flatF L ((i - 1) * 3 + 1) = (L.getD (i - 1) []).getD 1 0 := flatF_at hl (by omega) (by omega)
  unfold cellF
  rw [e0, e1, e2, f0, f1, if_neg (fun q => q hx.1), if_neg (fun q => q hx.2)]
  unfold Up2 Lt2 k0 k1
  rfl
theorem lockF_list {L : List (List Int)} (hl : ∀ t ∈ L, t.length = 5) (hg : ∀ t ∈ L, goodL t) {i : Nat} (hi : i < L.length) : lockF (flatF L) i = if 0 < i ∧ ¬ Up2 k0 kN (L.getD (i - 1) []) (L.getD i []) then 1 else 0 := by
  have hx := hg _ (getD_mem hi)
  have e0 : flatF L (i * 5) = (L.getD i []).getD 0 0 := flatF_at hl hi (by omega : 0 < 5)
  have e1 : flatF L (i * 5 + 1) = (L.getD i []).getD 1 0 := flatF_at hl hi (by omega)
  have e2 : flatF L (i * 5 + 2) = (L.getD i []).getD 2 0 := flatF_at hl hi (by omega)
  have e3 : flatF L (i * 5 + 3) = (L.getD i []).getD 3 0 := flatF_at hl hi (by omega)
  have e4 : flatF L (i * 5 + 4) = (L.getD i []).getD 4 0 := flatF_at hl hi (by omega)
  have f0 : flatF L ((i - 1) * 5) = (L.getD (i - 1) []).getD 0 0 := flatF_at hl (by omega) (by omega : 0 < 5)
  unfold lockF
  rw [e0, e1, e2, e3, e4, f0, if_neg (fun q => q hx.1), if_neg (fun q => q hx.2.1), if_neg (fun q => q hx.2.2)]
  have hu : ∀ x y : List Int, Up2 k0 kN x y ↔ x.getD 0 0 < y.getD 0 0 := fun x y => by
    unfold Up2 Lt2 k0 kN
    omega
  by_cases q : 0 < i ∧ ¬ Up2 k0 kN (L.getD (i - 1) []) (L.getD i [])
  · rw [if_pos q, if_pos ⟨q.1, fun r => q.2 ((hu _ _).2 r)⟩]
  · rw [if_neg q, if_neg (fun r => q ⟨r.1, fun u => r.2 ((hu _ _).1 u)⟩)]
theorem writeF_list {L : List (List Int)} (hl : ∀ t ∈ L, t.length = 4) (hg : ∀ t ∈ L, goodW t) {i : Nat} (hi : i < L.length) : writeF (flatF L) i = if 0 < i ∧ ¬ Up2 k0 k1 (L.getD (i - 1) []) (L.getD i []) then 1 else 0 := by
  have hx := hg _ (getD_mem hi)
  have e0 : flatF L (i * 4) = (L.getD i []).getD 0 0 := flatF_at hl hi (by omega : 0 < 4)
  have e1 : flatF L (i * 4 + 1) = (L.getD i []).getD 1 0 := flatF_at hl hi (by omega)
  have e2 : flatF L (i * 4 + 2) = (L.getD i []).getD 2 0 := flatF_at hl hi (by omega)
  have e3 : flatF L (i * 4 + 3) = (L.getD i []).getD 3 0 := flatF_at hl hi (by omega)
  have f0 : flatF L ((i - 1) * 4) = (L.getD (i - 1) []).getD 0 0 := flatF_at hl (by omega) (by omega : 0 < 4)
  have f1 : flatF L ((i - 1) * 4 + 1) = (L.getD (i - 1) []).getD 1 0 := flatF_at hl (by omega) (by omega)
  have hf : fits (flatF L) i := by
    unfold fits
    rw [e1, e2, e3]
    exact hx.2.2
  unfold writeF
  rw [e0, e1, e2, e3, f0, f1, if_neg (fun q => q hx.1), if_neg (fun q => q hx.2.1)]
  by_cases q : 0 < i ∧ ¬ Up2 k0 k1 (L.getD (i - 1) []) (L.getD i [])
  · rw [if_pos q]
    exact if_pos (Or.inl q)
  · rw [if_neg q]
    exact if_neg (fun r => r.elim (fun u => q u) (fun u => u hf))
theorem scan_alike {G : Nat → Int} {f g : List Int → Int} {L : List (List Int)} (h : ∀ i, i < L.length → G i = if 0 < i ∧ ¬ Up2 f g (L.getD (i - 1) []) (L.getD i []) then 1 else 0) (h2 : ∃ i, i + 1 < L.length ∧ ¬ Up2 f g (L.getD i []) (L.getD (i + 1) [])) : scan G L.length = 1 := by
  refine scan_bits (fun i hi => ?_) ?_
  · rw [h i hi]
    split
    · exact Or.inr rfl
    · exact Or.inl rfl
  · obtain ⟨i, hi, q⟩ := h2
    refine ⟨i + 1, hi, ?_⟩
    rw [h (i + 1) hi, if_pos ⟨Nat.succ_pos i, q⟩]
/-- A store of three lists of rows. -/
def stoOf (P Q R : List (List Int)) : Sto := ⟨P.length, flatF P, Q.length, flatF Q, R.length, flatF R⟩
def joinC (A B : Sto) : List (List Int) := insAll k0 k1 (listF 3 A.nc A.c) (listF 3 B.nc B.c)
def joinL (A B : Sto) : List (List Int) := insAll k0 kN (listF 5 A.nl A.l) (listF 5 B.nl B.l)
def joinW (A B : Sto) : List (List Int) := insAll k0 k1 (listF 4 A.nw A.k) (listF 4 B.nw B.k)
/-- Two stores in one. -/
def joinS (A B : Sto) : Sto := stoOf (joinC A B) (joinL A B) (joinW A B)
theorem goodC_of {S : Sto} (h : scan (cellF S.c) S.nc = 0) : ∀ t ∈ listF 3 S.nc S.c, goodC t := fun t ht => by
  obtain ⟨i, hi, rfl⟩ := listF_mem ht
  have hz := cellF_zero (scan_zero h i hi)
  unfold goodC
  rw [struD_get _ _ _ _ (by omega), struD_get _ _ _ _ (by omega), struD_get _ _ _ _ (by omega)]
  exact hz
theorem goodL_of {S : Sto} (h : scan (lockF S.l) S.nl = 0) : ∀ t ∈ listF 5 S.nl S.l, goodL t := fun t ht => by
  obtain ⟨i, hi, rfl⟩ := listF_mem ht
  have hz := scan_zero h i hi
  unfold goodL
  rw [struD_get _ _ _ _ (by omega), struD_get _ _ _ _ (by omega), struD_get _ _ _ _ (by omega), struD_get _ _ _ _ (by omega), struD_get _ _ _ _ (by omega)]
  unfold lockF at hz
  rw [Nat.add_zero]
  by_cases h1 : faultOf (S.l (i * 5)) = 0
  case neg => rw [if_pos h1] at hz; exact absurd hz h1
  rw [if_neg (fun q => q h1)] at hz
  by_cases h2 : faultOf (S.l (i * 5 + 3)) = 0
  case neg => rw [if_pos h2] at hz; exact absurd hz h2
  rw [if_neg (fun q => q h2)] at hz
  by_cases h3 : 1 ≤ S.l (i * 5 + 1) ∧ S.l (i * 5 + 1) ≤ 100000 ∧ 1 ≤ S.l (i * 5 + 2) ∧ S.l (i * 5 + 2) ≤ 3 ∧ 0 ≤ S.l (i * 5 + 4) ∧ S.l (i * 5 + 4) ≤ 100000
  case neg => rw [if_pos h3] at hz; exact absurd hz (by decide)
  exact ⟨h1, h2, h3⟩
theorem goodW_of {S : Sto} (h : scan (writeF S.k) S.nw = 0) : ∀ t ∈ listF 4 S.nw S.k, goodW t := fun t ht => by
  obtain ⟨i, hi, rfl⟩ := listF_mem ht
  have hz := scan_zero h i hi
  have ha := writeF_zero hz
  unfold goodW
  rw [struD_get _ _ _ _ (by omega), struD_get _ _ _ _ (by omega), struD_get _ _ _ _ (by omega), struD_get _ _ _ _ (by omega)]
  rw [Nat.add_zero]
  refine ⟨ha.1, ha.2, ?_⟩
  unfold writeF at hz
  rw [if_neg (fun q => q ha.1), if_neg (fun q => q ha.2)] at hz
  by_cases hf : fits S.k i
  · exact hf
  · rw [if_pos (Or.inr hf)] at hz
    exact absurd hz (by decide)
theorem weakC_of {S : Sto} (h : scan (cellF S.c) S.nc = 0) : Weak k0 k1 (listF 3 S.nc S.c) := by
  unfold Weak
  rw [List.pairwise_iff_getElem]
  intro i j hi hj hij
  have hi' : i < S.nc := by simpa [listF] using hi
  have hj' : j < S.nc := by simpa [listF] using hj
  have := cells_rise h j hj' i hij
  refine Up2.asym ?_
  simp only [listF, List.getElem_map, List.getElem_range]
  unfold Up2 Lt2 k0 k1
  rw [struD_get _ _ _ _ (by omega), struD_get _ _ _ _ (by omega), struD_get _ _ _ _ (by omega), struD_get _ _ _ _ (by omega)]
  exact this
theorem weakL_of {S : Sto} (h : scan (lockF S.l) S.nl = 0) : Weak k0 kN (listF 5 S.nl S.l) := by
  have hr := rise_pairs (p := fun i => S.l (i * 5)) (q := fun _ => 0) (n := S.nl) (fun i hi => Or.inl (lockF_next (scan_zero h (i + 1) hi)))
  unfold Weak
  rw [List.pairwise_iff_getElem]
  intro i j hi hj hij
  have hi' : i < S.nl := by simpa [listF] using hi
  have hj' : j < S.nl := by simpa [listF] using hj
  have := hr j hj' i hij
  refine Up2.asym ?_
  simp only [listF, List.getElem_map, List.getElem_range]
  unfold Up2 Lt2 k0 kN
  rw [struD_get _ _ _ _ (by omega), struD_get _ _ _ _ (by omega)]
  exact this
theorem weakW_of {S : Sto} (h : scan (writeF S.k) S.nw = 0) : Weak k0 k1 (listF 4 S.nw S.k) := by
  have hn : ∀ i, i + 1 < S.nw → pairLt (S.k (i * 4)) (S.k (i * 4 + 1)) (S.k ((i + 1) * 4)) (S.k ((i + 1) * 4 + 1)) := fun i hi => by
    have hz := scan_zero h (i + 1) hi
    have ha := writeF_zero hz
    unfold writeF at hz
    rw [if_neg (fun q => q ha.1), if_neg (fun q => q ha.2)] at hz
    refine Classical.byContradiction fun q => ?_
    rw [if_pos (Or.inl ⟨Nat.succ_pos i, q⟩)] at hz
    exact absurd hz (by decide)
  have hr := rise_pairs (p := fun i => S.k (i * 4)) (q := fun i => S.k (i * 4 + 1)) (n := S.nw) hn
  unfold Weak
  rw [List.pairwise_iff_getElem]
  intro i j hi hj hij
  have hi' : i < S.nw := by simpa [listF] using hi
  have hj' : j < S.nw := by simpa [listF] using hj
  have := hr j hj' i hij
  refine Up2.asym ?_
  simp only [listF, List.getElem_map, List.getElem_range]
  unfold Up2 Lt2 k0 k1
  rw [struD_get _ _ _ _ (by omega), struD_get _ _ _ _ (by omega), struD_get _ _ _ _ (by omega), struD_get _ _ _ _ (by omega)]
  exact this
theorem insAll_mem {f g : List Int → Int} {L xs : List (List Int)} {p : List Int → Prop} (h : ∀ t ∈ L, p t) (h2 : ∀ t ∈ xs, p t) : ∀ t ∈ insAll f g L xs, p t := fun t ht => by
  rcases List.mem_append.1 ((insAll_perm f g xs L).mem_iff.1 ht) with q | q
  · exact h t q
  · exact h2 t q
/-- What is sorted and what was laid in its place: one list, or one fault. -/
theorem row_two {G : (Nat → Int) → Nat → Int} {f g : List Int → Int} {m : Nat} {good : List Int → Prop} {LA LB P : List (List Int)}
    (hG : ∀ L : List (List Int), (∀ t ∈ L, t.length = m) → (∀ t ∈ L, good t) → ∀ i, i < L.length → G (flatF L) i = if 0 < i ∧ ¬ Up2 f g (L.getD (i - 1) []) (L.getD i []) then 1 else 0)
    (la : ∀ t ∈ LA, t.length = m) (lb : ∀ t ∈ LB, t.length = m) (ga : ∀ t ∈ LA, good t) (gb : ∀ t ∈ LB, good t) (wa : Weak f g LA) (hw : Weak f g P) (hp : P.Perm (LA ++ LB)) :
    P.length = (insAll f g LA LB).length ∧ (P = insAll f g LA LB ∨ scan (G (flatF P)) P.length = 1 ∧ scan (G (flatF (insAll f g LA LB))) (insAll f g LA LB).length = 1) := by
  have hq : P.Perm (insAll f g LA LB) := hp.trans (insAll_perm f g LB LA).symm
  refine ⟨hq.length_eq, ?_⟩
  have lp : ∀ {p : List Int → Prop}, (∀ t ∈ LA, p t) → (∀ t ∈ LB, p t) → ∀ t ∈ P, p t := fun {p} h h2 t ht => by
    rcases List.mem_append.1 (hp.mem_iff.1 ht) with q | q
    · exact h t q
    · exact h2 t q
  rcases two_weak hw (insAll_weak f g LB wa) hq with e | ⟨h1, h2⟩
  · exact Or.inl e
  · exact Or.inr ⟨scan_alike (hG P (lp la lb) (lp ga gb)) h1, scan_alike (hG _ (insAll_mem la lb) (insAll_mem ga gb)) h2⟩
theorem join_same {A B : Sto} (hA : storeF A = 0) (hB : storeF B = 0) {P Q R : List (List Int)}
    (hP : Weak k0 k1 P ∧ P.Perm (listF 3 A.nc A.c ++ listF 3 B.nc B.c)) (hQ : Weak k0 kN Q ∧ Q.Perm (listF 5 A.nl A.l ++ listF 5 B.nl B.l)) (hR : Weak k0 k1 R ∧ R.Perm (listF 4 A.nw A.k ++ listF 4 B.nw B.k)) :
    storeF (stoOf P Q R) = storeF (joinS A B) ∧ (storeF (joinS A B) = 0 → stoOf P Q R = joinS A B) := by
  obtain ⟨_, ac, al, aw, _⟩ := storeF_zero hA
  obtain ⟨_, bc, bl, bw, _⟩ := storeF_zero hB
  obtain ⟨n1, h1⟩ := row_two (G := cellF) (m := 3) (good := goodC) (fun L hl hg i hi => cellF_list hl hg hi) listF_all listF_all (goodC_of ac) (goodC_of bc) (weakC_of ac) hP.1 hP.2
  obtain ⟨n2, h2⟩ := row_two (G := lockF) (m := 5) (good := goodL) (fun L hl hg i hi => lockF_list hl hg hi) listF_all listF_all (goodL_of al) (goodL_of bl) (weakL_of al) hQ.1 hQ.2
  obtain ⟨n3, h3⟩ := row_two (G := writeF) (m := 4) (good := goodW) (fun L hl hg i hi => writeF_list hl hg hi) listF_all listF_all (goodW_of aw) (goodW_of bw) (weakW_of aw) hR.1 hR.2
  by_cases hbig : 200 < P.length ∨ 200 < Q.length ∨ 200 < R.length
  · have e1 : storeF (stoOf P Q R) = 2 := by unfold storeF; exact if_pos hbig
    have e2 : storeF (joinS A B) = 2 := by
      unfold storeF
      refine if_pos ?_
      rw [n1, n2, n3] at hbig
      exact hbig
    rw [e1, e2]
    exact ⟨rfl, fun h => absurd h (by decide)⟩
  have hbig2 : ¬ (200 < (joinS A B).nc ∨ 200 < (joinS A B).nl ∨ 200 < (joinS A B).nw) := by
    have := hbig
    rw [n1, n2, n3] at this
    exact this
  have same : ∀ S : Sto, ¬ (200 < S.nc ∨ 200 < S.nl ∨ 200 < S.nw) → scan (cellF S.c) S.nc = 1 → storeF S = 1 := fun S hb h => by
    unfold storeF
    rw [if_neg hb, h]
    rfl
  have lk : ∀ S : Sto, ¬ (200 < S.nc ∨ 200 < S.nl ∨ 200 < S.nw) → scan (lockF S.l) S.nl = 1 → storeF S = if scan (cellF S.c) S.nc ≠ 0 then scan (cellF S.c) S.nc else 1 := fun S hb h => by
    unfold storeF
    rw [if_neg hb, h, if_pos (show (1 : Int) ≠ 0 by decide)]
  have wk : ∀ S : Sto, ¬ (200 < S.nc ∨ 200 < S.nl ∨ 200 < S.nw) → scan (writeF S.k) S.nw = 1 → storeF S = if scan (cellF S.c) S.nc ≠ 0 then scan (cellF S.c) S.nc else if scan (lockF S.l) S.nl ≠ 0 then scan (lockF S.l) S.nl else 1 := fun S hb h => by
    unfold storeF
    rw [if_neg hb, h, if_pos (show (1 : Int) ≠ 0 by decide)]
  have same2 : ∀ S T : Sto, ¬ (200 < S.nc ∨ 200 < S.nl ∨ 200 < S.nw) → ¬ (200 < T.nc ∨ 200 < T.nl ∨ 200 < T.nw) → (S.nc = T.nc ∧ S.c = T.c) → scan (lockF S.l) S.nl = 1 → scan (lockF T.l) T.nl = 1 → storeF S = storeF T ∧ storeF T ≠ 0 := fun S T hb hb2 e h h2 => by
    rw [lk S hb h, lk T hb2 h2, e.1, e.2]
    refine ⟨rfl, ?_⟩
    split
    · assumption
    · decide
  have same3 : ∀ S T : Sto, ¬ (200 < S.nc ∨ 200 < S.nl ∨ 200 < S.nw) → ¬ (200 < T.nc ∨ 200 < T.nl ∨ 200 < T.nw) → (S.nc = T.nc ∧ S.c = T.c) → (S.nl = T.nl ∧ S.l = T.l) → scan (writeF S.k) S.nw = 1 → scan (writeF T.k) T.nw = 1 → storeF S = storeF T ∧ storeF T ≠ 0 := fun S T hb hb2 e e' h h2 => by
    rw [wk S hb h, wk T hb2 h2, e.1, e.2, e'.1, e'.2]
    refine ⟨rfl, ?_⟩
    split
    · assumption
    · split
      · assumption
      · decide
  rcases h1 with rfl | ⟨s1, s2⟩
  · rcases h2 with rfl | ⟨s1, s2⟩
    · rcases h3 with rfl | ⟨s1, s2⟩
      · exact ⟨rfl, fun _ => rfl⟩
      · obtain ⟨e1, e2⟩ := same3 (stoOf (joinC A B) (joinL A B) R) (joinS A B) hbig hbig2 ⟨rfl, rfl⟩ ⟨rfl, rfl⟩ s1 s2
        exact ⟨e1, fun h => absurd h e2⟩
    · obtain ⟨e1, e2⟩ := same2 (stoOf (joinC A B) Q R) (joinS A B) hbig hbig2 ⟨rfl, rfl⟩ s1 s2
      exact ⟨e1, fun h => absurd h e2⟩
  · rw [same (stoOf P Q R) hbig s1, same (joinS A B) hbig2 s2]
    exact ⟨rfl, fun h => absurd h (by decide)⟩
/-- What JoinStores answers. -/
def JoinAns (A B : Sto) (c : Int) (R : Sto) : Prop := (storeF A ≠ 0 ∧ c = storeF A ∧ R = emptyS) ∨ (storeF A = 0 ∧ storeF B ≠ 0 ∧ c = storeF B ∧ R = emptyS) ∨ (storeF A = 0 ∧ storeF B = 0 ∧ storeF (joinS A B) ≠ 0 ∧ c = storeF (joinS A B) ∧ R = emptyS) ∨ (storeF A = 0 ∧ storeF B = 0 ∧ storeF (joinS A B) = 0 ∧ c = 0 ∧ R = joinS A B)
end Go.Proofs.YtgedodcojalidaaGreat

namespace Go.Proofs.YtgedodcojalidaaGreat
open Go.RowKit

theorem flat_lenJ {m : Nat} : ∀ (R : List (List Int)), (∀ t ∈ R, t.length = m) → R.flatten.length = R.length * m
  | [], _ => by simp
  | x :: R, h => by
    have hx := h x List.mem_cons_self
    have := flat_lenJ R (fun t ht => h t (List.mem_cons_of_mem _ ht))
    rw [List.flatten_cons, List.length_append, this, hx, List.length_cons, Nat.succ_mul]
    omega
end Go.Proofs.YtgedodcojalidaaGreat

namespace Go.Proofs.YtgedodcojalidaaGreat
open Go.RowKit

def ApaJ (u v : Value) : Prop := ∀ q, u.ownBlock = some q → v.ownBlock ≠ some q
theorem ApaJ.symm {u v : Value} (h : ApaJ u v) : ApaJ v u := fun q h1 h2 => h q h2 h1
/-- The boxes: of the second store, of the answer, of the store under way; what it holds lies apart. -/
structure Jog (w x : World) (b : Nat) (y0 y1 y2 u0 u1 u2 : Value) (n0 n1 n2 : Nat) (L0 L1 L2 : List Int) : Prop where
  below : Below w.heap.size w x
  bb : Blk3 x (w.heap.size + 1) y0 y1 y2
  rb : Blk3 x (w.heap.size + 2) (.slice none 0 0) (.slice none 0 0) (.slice none 0 0)
  lo : w.heap.size + 3 ≤ b
  blk : Blk3 x b u0 u1 u2
  o0 : OwnM x (w.heap.size + 3) 59 3 u0 n0 L0
  o1 : OwnM x (w.heap.size + 3) 62 5 u1 n1 L1
  o2 : OwnM x (w.heap.size + 3) 36 4 u2 n2 L2
  a01 : ApaJ u0 u1
  a02 : ApaJ u0 u2
  a12 : ApaJ u1 u2
  nb : (∀ k, u0.ownBlock = some k → k ≠ b) ∧ (∀ k, u1.ownBlock = some k → k ≠ b) ∧ ∀ k, u2.ownBlock = some k → k ≠ b
theorem Jog.later {w x x' : World} {b : Nat} {y0 y1 y2 u0 u1 u2 : Value} {n0 n1 n2 : Nat} {L0 L1 L2 : List Int} (h : Jog w x b y0 y1 y2 u0 u1 u2 n0 n1 n2 L0 L1 L2) (hb : Below x.heap.size x x') : Jog w x' b y0 y1 y2 u0 u1 u2 n0 n1 n2 L0 L1 L2 :=
  ⟨h.below.trans (hb.mono h.below.size), h.bb.later hb, h.rb.later hb, h.lo, h.blk.later hb, h.o0.later hb, h.o1.later hb, h.o2.later hb, h.a01, h.a02, h.a12, h.nb⟩
theorem OwnM.monoJ {w : World} {B B' : Nat} {e : TypeId} {m n : Nat} {v : Value} {L : List Int} (h : OwnM w B e m v n L) (hB : B' ≤ B) : OwnM w B' e m v n L := World.ownsRow.mono h hB
theorem OwnM.farJ {w : World} {B b j : Nat} {e : TypeId} {m n : Nat} {v : Value} {L : List Int} (h : OwnM w B e m v n L) (hb : ∀ k, v.ownBlock = some k → k ≠ b) (u : Value) : OwnM (w.setCell ⟨b, j, none⟩ u) B e m v n L :=
  h.keptB (fun k hk => Below.heap_setCell w ⟨b, j, none⟩ u k (hb k hk))
theorem ApaJ.of {x : World} {B S : Nat} {e e' : TypeId} {m m' : Nat} {u v : Value} {n n' : Nat} {L L' : List Int} {x' : World} (hu : OwnM x' S e m u n L) (hv : OwnM x B e' m' v n' L') (hS : x.heap.size ≤ S) : ApaJ u v := fun q h1 h2 => by
  have a := (hu.block q h1).1
  have b := (hv.block q h2).2
  omega
theorem Row.cellJ {w : World} {B m n g o : Nat} {F : Nat → Int} {cp : Nat} (h : Row w B m n F (.slice (some ⟨g, o, none⟩) n cp)) {k : Nat} (hk : k < n) {q : Nat} (hq : q < m) : g < w.heap.size ∧ w.cell? ⟨g, o + k * m + q, none⟩ = some (.int .i64 (F (k * m + q))) := by
  obtain ⟨ao, cp', e, hr⟩ := h
  cases e
  obtain ⟨g', o', e, _, hg, hc⟩ := hr (by omega)
  cases e
  refine ⟨hg, ?_⟩
  have hlt : k * m + q < n * m := by
    calc k * m + q < k * m + m := by omega
      _ = (k + 1) * m := by rw [Nat.succ_mul]
      _ ≤ n * m := Nat.mul_le_mul_right m hk
  rw [Nat.add_assoc]
  exact hc _ hlt
theorem listF_flatten {m : Nat} (hm : 0 < m) (n : Nat) (F : Nat → Int) : (listF m n F).flatten = nums F (n * m) := by
  have hl := flat_lenJ (listF m n F) listF_all
  rw [listF_len] at hl
  apply List.ext_getElem
  · rw [hl, nums_length]
  · intro i h1 h2
    have hi : i < n * m := by rw [hl] at h1; exact h1
    have e := listF_flat (F := F) hm hi
    unfold flatF at e
    rw [List.getD_eq_getElem?_getD, List.getElem?_eq_getElem h1] at e
    simpa [nums] using e
theorem apartD_apj {x : World} {B0 B1 : Nat} {R : Sto} {u0 u1 u2 : Value} (r0 : Row x B0 3 R.nc R.c u0) (r1 : Row x B1 5 R.nl R.l u1) (h01 : ApaJ u0 u1) (h02 : ApaJ u0 u2) (h12 : ApaJ u1 u2) : ApartD R u0 u1 u2 := by
  have own : ∀ {B m n : Nat} {F : Nat → Int} {u : Value}, Row x B m n F u → 0 < n → ∃ k, u.ownBlock = some k := fun hr hn => by
    obtain ⟨ao, cp, rfl, hr⟩ := hr
    obtain ⟨g, o, rfl, _⟩ := hr hn
    exact ⟨g, rfl⟩
  refine ⟨fun h0 _ e => ?_, fun h0 _ e => ?_, fun h1 _ e => ?_⟩
  · obtain ⟨k, hk⟩ := own r0 h0
    exact h01 k hk (e ▸ hk)
  · obtain ⟨k, hk⟩ := own r0 h0
    exact h02 k hk (e ▸ hk)
  · obtain ⟨k, hk⟩ := own r1 h1
    exact h12 k hk (e ▸ hk)
end Go.Proofs.YtgedodcojalidaaGreat

namespace Go.Proofs.YtgedodcojalidaaGreat
open Go.RowKit Go.Sort Go.Shelf Go.Lib

theorem Free.keptJ {w w' : World} {N : Nat} {v : Value} (h : Free w N v) (hb : ∀ k, v.ownBlock = some k → w'.heap[k]? = w.heap[k]?) : Free w' N v := fun g o n c e p hp =>
  (World.frozen?_of_block (w := w) (a := ⟨g, o + p, none⟩) (hb g (by rw [e]; rfl))).trans (h g o n c e p hp)
theorem weak2_of {d : Array (List Int)} {n : Nat} (hd : d.size = n) (hs : SortedIn (ltOf (cf2 (fun x => x.getD 0 0) (fun x => x.getD 1 0))) 0 n d) : Weak k0 k1 d.toList := by
  unfold Weak
  rw [List.pairwise_iff_getElem]
  intro i j hi hj hij
  have hi' : i < d.size := by simpa using hi
  have hj' : j < d.size := by simpa using hj
  have h3 := hs i j (Nat.zero_le _) hij (by omega)
  rw [lt_cf2, getElem!_pos d i hi', getElem!_pos d j hj'] at h3
  have h4 := of_decide_eq_false h3
  simpa [Up2, Lt2, k0, k1] using h4
theorem weak1_of {d : Array (List Int)} {n : Nat} (hd : d.size = n) (hs : SortedIn (ltOf (cf1 (fun x => x.getD 0 0))) 0 n d) : Weak k0 kN d.toList := by
  unfold Weak
  rw [List.pairwise_iff_getElem]
  intro i j hi hj hij
  have hi' : i < d.size := by simpa using hi
  have hj' : j < d.size := by simpa using hj
  have h3 := hs i j (Nat.zero_le _) hij (by omega)
  rw [lt_cf1, getElem!_pos d i hi', getElem!_pos d j hj'] at h3
  have h4 := of_decide_eq_false h3
  simpa [Up2, Lt2, k0, kN] using h4
/-- Rows of one width are the rows of their numbers. -/
theorem rowD_both {m a b : Nat} (hm : 0 < m) (F G : Nat → Int) : (rowD m (a + b) (fun p => (nums F (a * m) ++ nums G (b * m)).getD p 0)).toList = listF m a F ++ listF m b G := by
  have hw : ∀ t ∈ listF m a F ++ listF m b G, t.length = m := fun t ht => by
    rcases List.mem_append.1 ht with q | q
    · exact listF_all t q
    · exact listF_all t q
  have h := rowD_flat hm (listF m a F ++ listF m b G) hw
  rw [List.length_append, listF_len, listF_len, List.flatten_append, listF_flatten hm, listF_flatten hm] at h
  exact h
theorem rowF_flat {m n : Nat} {d : Array (List Int)} (hd : d.size = n) (hw : ∀ t ∈ d.toList, t.length = m) {t : Nat} (ht : t < n * m) : rowF m d t = flatF d.toList t := by
  have hl : d.toList.length = n := by rw [Array.length_toList, hd]
  have e := flat_get (m := m) d.toList t hw (by rw [hl]; exact ht)
  unfold flatF
  rw [e]
  have hi : t / m < d.size := by rw [hd]; exact (div_lt ht).1
  unfold rowF
  rw [getElem!_pos d _ hi]
  simp [hi]
/-- A row that a call has made, sorted: its list, which rises weakly; nothing else has turned. -/
def SortedJ (w : World) (f g : List Int → Int) (B m n : Nat) (v : Value) (R : List (List Int)) (e : Ending) (w' : World) : Prop :=
  e = .returned (.tuple #[]) ∧ ∃ P, (P.length = n ∧ Weak f g P ∧ P.Perm R) ∧ (Row w' B m n (flatF P) v ∧ Free w' (n * m) v) ∧ w.grownBy w' v.ownBlock
theorem sortCellJ (B a b : Nat) (F G : Nat → Int) (ao : Option Addr) (cp : Nat) (w : World) (h : OwnM w B 59 3 (.slice ao (a + b) cp) (a + b) (nums F (a * 3) ++ nums G (b * 3))) (hn : a + b ≤ 1048576) :
    Calls Tryz.prog 40 #[.slice ao (a + b) cp, .func (.func 41) #[] #[]] w (SortedJ w k0 k1 B 3 (a + b) (.slice ao (a + b) cp) (listF 3 a F ++ listF 3 b G)) := by
  have hlen : (nums F (a * 3) ++ nums G (b * 3)).length = (a + b) * 3 := by rw [List.length_append, nums_length, nums_length, Nat.add_mul]
  obtain ⟨hr, hf⟩ := (h.own hlen).row
  rcases Nat.eq_zero_or_pos (a + b) with e | e
  · have hcon := AnyF.slices_SortFunc_none Tryz.sortCell ao cp (.func (.func 41) #[] #[]) w
    change Calls Tryz.prog 40 _ _ _ at hcon
    rw [e] at hr hf ⊢
    refine hcon.mono ?_
    rintro e' w' ⟨rfl, rfl⟩
    obtain ⟨ea, eb⟩ : a = 0 ∧ b = 0 := by omega
    subst ea eb
    exact ⟨rfl, [], ⟨rfl, List.Pairwise.nil, List.Perm.refl _⟩, ⟨⟨_, _, rfl, fun q => absurd q (Nat.lt_irrefl 0)⟩, hf⟩, ⟨rfl, rfl, rfl, Nat.le_refl _, fun _ _ _ => rfl⟩⟩
  · obtain ⟨g, o, rfl, hB, hg, _⟩ := hr.at e
    refine (sortCell_is B (a + b) g o cp _ w hr hf hB hg hn).mono ?_
    rintro e' w' ⟨rfl, d, h1, ⟨h2, h3⟩, ⟨h4, h5⟩, h6⟩
    rw [rowD_both (by omega)] at h2
    have hw : ∀ t ∈ d.toList, t.length = 3 := fun t ht => by
      rcases List.mem_append.1 (h2.mem_iff.1 ht) with q | q
      · exact listF_all t q
      · exact listF_all t q
    exact ⟨rfl, d.toList, ⟨by rw [Array.length_toList, h1], weak2_of h1 h3, h2⟩, ⟨h4.congr (fun p hp => rowF_flat h1 hw hp), h5⟩, h6⟩
theorem sortLockJ (B a b : Nat) (F G : Nat → Int) (ao : Option Addr) (cp : Nat) (w : World) (h : OwnM w B 62 5 (.slice ao (a + b) cp) (a + b) (nums F (a * 5) ++ nums G (b * 5))) (hn : a + b ≤ 1048576) :
    Calls Tryz.prog 50 #[.slice ao (a + b) cp, .func (.func 51) #[] #[]] w (SortedJ w k0 kN B 5 (a + b) (.slice ao (a + b) cp) (listF 5 a F ++ listF 5 b G)) := by
  have hlen : (nums F (a * 5) ++ nums G (b * 5)).length = (a + b) * 5 := by rw [List.length_append, nums_length, nums_length, Nat.add_mul]
  obtain ⟨hr, hf⟩ := (h.own hlen).row
  rcases Nat.eq_zero_or_pos (a + b) with e | e
  · have hcon := AnyF.slices_SortFunc_none Tryz.sortLock ao cp (.func (.func 51) #[] #[]) w
    change Calls Tryz.prog 50 _ _ _ at hcon
    rw [e] at hr hf ⊢
    refine hcon.mono ?_
    rintro e' w' ⟨rfl, rfl⟩
    obtain ⟨ea, eb⟩ : a = 0 ∧ b = 0 := by omega
    subst ea eb
    exact ⟨rfl, [], ⟨rfl, List.Pairwise.nil, List.Perm.refl _⟩, ⟨⟨_, _, rfl, fun q => absurd q (Nat.lt_irrefl 0)⟩, hf⟩, ⟨rfl, rfl, rfl, Nat.le_refl _, fun _ _ _ => rfl⟩⟩
  · obtain ⟨g, o, rfl, hB, hg, _⟩ := hr.at e
    refine (sortLock_is B (a + b) g o cp _ w hr hf hB hg hn).mono ?_
    rintro e' w' ⟨rfl, d, h1, ⟨h2, h3⟩, ⟨h4, h5⟩, h6⟩
    rw [rowD_both (by omega)] at h2
    have hw : ∀ t ∈ d.toList, t.length = 5 := fun t ht => by
      rcases List.mem_append.1 (h2.mem_iff.1 ht) with q | q
      · exact listF_all t q
      · exact listF_all t q
    exact ⟨rfl, d.toList, ⟨by rw [Array.length_toList, h1], weak1_of h1 h3, h2⟩, ⟨h4.congr (fun p hp => rowF_flat h1 hw hp), h5⟩, h6⟩
theorem sortWriteJ (B a b : Nat) (F G : Nat → Int) (ao : Option Addr) (cp : Nat) (w : World) (h : OwnM w B 36 4 (.slice ao (a + b) cp) (a + b) (nums F (a * 4) ++ nums G (b * 4))) (hn : a + b ≤ 1048576) :
    Calls Tryz.prog 52 #[.slice ao (a + b) cp, .func (.func 53) #[] #[]] w (SortedJ w k0 k1 B 4 (a + b) (.slice ao (a + b) cp) (listF 4 a F ++ listF 4 b G)) := by
  have hlen : (nums F (a * 4) ++ nums G (b * 4)).length = (a + b) * 4 := by rw [List.length_append, nums_length, nums_length, Nat.add_mul]
  obtain ⟨hr, hf⟩ := (h.own hlen).row
  rcases Nat.eq_zero_or_pos (a + b) with e | e
  · have hcon := AnyF.slices_SortFunc_none Tryz.sortWrite ao cp (.func (.func 53) #[] #[]) w
    change Calls Tryz.prog 52 _ _ _ at hcon
    rw [e] at hr hf ⊢
    refine hcon.mono ?_
    rintro e' w' ⟨rfl, rfl⟩
    obtain ⟨ea, eb⟩ : a = 0 ∧ b = 0 := by omega
    subst ea eb
    exact ⟨rfl, [], ⟨rfl, List.Pairwise.nil, List.Perm.refl _⟩, ⟨⟨_, _, rfl, fun q => absurd q (Nat.lt_irrefl 0)⟩, hf⟩, ⟨rfl, rfl, rfl, Nat.le_refl _, fun _ _ _ => rfl⟩⟩
  · obtain ⟨g, o, rfl, hB, hg, _⟩ := hr.at e
    refine (sortWrite_is B (a + b) g o cp _ w hr hf hB hg hn).mono ?_
    rintro e' w' ⟨rfl, d, h1, ⟨h2, h3⟩, ⟨h4, h5⟩, h6⟩
    rw [rowD_both (by omega)] at h2
    have hw : ∀ t ∈ d.toList, t.length = 4 := fun t ht => by
      rcases List.mem_append.1 (h2.mem_iff.1 ht) with q | q
      · exact listF_all t q
      · exact listF_all t q
    exact ⟨rfl, d.toList, ⟨by rw [Array.length_toList, h1], weak2_of h1 h3, h2⟩, ⟨h4.congr (fun p hp => rowF_flat h1 hw hp), h5⟩, h6⟩
end Go.Proofs.YtgedodcojalidaaGreat

namespace Go.Proofs.YtgedodcojalidaaGreat
open Go.RowKit

def allQ : Nat → List (List Bool)
  | 0 => [[]]
  | n + 1 => (allQ n).flatMap fun A => [false :: A, true :: A]
theorem mem_allQ : ∀ (n : Nat) (A : List Bool), A.length = n → A ∈ allQ n
  | 0, [], _ => by simp [allQ]
  | 0, _ :: _, h => by simp at h
  | _ + 1, [], h => by simp at h
  | n + 1, x :: A, h => by
    have h1 := mem_allQ n A (by simpa using h)
    simp only [allQ, List.mem_flatMap]
    exact ⟨A, h1, by cases x <;> simp⟩
/-- Which operations are done: the literals of A, the first k calls, the one more. -/
def mkQ (n : Nat) (oL oC : Nat → Nat) (oE : Nat) (l0 : Array Bool) (A : List Bool) (e : Bool) (k : Nat) : Array Bool :=
  (fun x : Array Bool => if e then x.setIfInBounds oE true else x) <|
  (List.range n).foldl (fun l i => (fun l2 : Array Bool => if i < k then l2.setIfInBounds (oC i) true else l2) (if A.getD i false then l.setIfInBounds (oL i) true else l)) l0
def leftQ (e : Bool) : Nat := if e then 0 else 1
def remQ (n : Nat) (A : List Bool) (e : Bool) (k : Nat) : Nat := A.countP (fun x => !x) + (n - k) + leftQ e
def isQ (n : Nat) (oL : Nat → Nat) (A : List Bool) (j : Nat) : Bool := (List.range n).any fun i => oL i == j && A.getD i true == false
def chkQ1 (md : Region.Mode) (ops : Array Oper) (n : Nat) (oL oC : Nat → Nat) (oE : Nat) (l0 : Array Bool) (A : List Bool) (e : Bool) (k : Nat) : Bool :=
  !((List.range k).all fun i => A.getD i false) ||
  (if k == n then A == List.replicate n true
   else (!(Region.ready md ops (mkQ n oL oC oE l0 A e k)).isEmpty) &&
    ((Region.ready md ops (mkQ n oL oC oE l0 A e k)).all fun j => isQ n oL A j || (oE == j && !e) || (oC k == j && A.getD k false)) &&
    ((List.range n).all fun i => A.getD i true || ((mkQ n oL oC oE l0 A e k).setIfInBounds (oL i) true == mkQ n oL oC oE l0 (A.set i true) e k && remQ n (A.set i true) e k + 1 == remQ n A e k)) &&
    (e || ((mkQ n oL oC oE l0 A e k).setIfInBounds oE true == mkQ n oL oC oE l0 A true k)) &&
    (!A.getD k false || ((mkQ n oL oC oE l0 A e k).setIfInBounds (oC k) true == mkQ n oL oC oE l0 A e (k + 1) && remQ n A e (k + 1) + 1 == remQ n A e k)))
def chkQ (md : Region.Mode) (ops : Array Oper) (n : Nat) (oL oC : Nat → Nat) (oE : Nat) (l0 : Array Bool) : Bool :=
  (allQ n).all fun A => (List.range (n + 1)).all fun k => chkQ1 md ops n oL oC oE l0 A false k && chkQ1 md ops n oL oC oE l0 A true k
theorem chkQ_at {md : Region.Mode} {ops : Array Oper} {n : Nat} {oL oC : Nat → Nat} {oE : Nat} {l0 : Array Bool} (h : chkQ md ops n oL oC oE l0 = true) {A : List Bool} {e : Bool} {k : Nat} (hA : A.length = n) (hk : k ≤ n) : chkQ1 md ops n oL oC oE l0 A e k = true := by
  have := List.all_eq_true.1 (List.all_eq_true.1 h A (mem_allQ _ _ hA)) k (List.mem_range.2 (by omega))
  rw [Bool.and_eq_true] at this
  cases e
  · exact this.1
  · exact this.2
/-- An operation that hands on what stands. -/
def OpQ (ops : Array Oper) (Q : Exit → Act → World → Prop) (j : Nat) (a : Act) (x : World) (R : Act → World → Prop) : Prop :=
  ∃ o, ops[j]? = some o ∧ o.guard = none ∧ ∀ K : Act → World → Prop, (∀ a' x', R a' x' → K a' x') → Oper.wp Tryz.prog o a x K Q
theorem wpAnyH_concs {ops : Array Oper} {Q : Exit → Act → World → Prop} {md : Region.Mode} {S : World → Prop} (n : Nat) (oL oC : Nat → Nat) (oE : Nat) (l0 : Array Bool) (f : Nat) (Z : List Bool → Bool → Nat → Act → World → Prop)
    (hchk : chkQ md ops n oL oC oE l0 = true) (hlen : ∀ A e k a x, Z A e k a x → A.length = n ∧ k ≤ n ∧ ∀ i, i < k → A.getD i false = true) (hS : ∀ A e k a x, Z A e k a x → S x)
    (hlit : ∀ A e k a x i, Z A e k a x → i < n → A.getD i true = false → OpQ ops Q (oL i) a x (Z (A.set i true) e k))
    (hcall : ∀ A e k a x, Z A e k a x → k < n → A.getD k false = true → OpQ ops Q (oC k) a x (Z A e (k + 1)))
    (hone : ∀ A k a x, Z A false k a x → OpQ ops Q oE a x (Z A true k))
    (hend : ∀ e a x, Z (List.replicate n true) e n a x → wpAnyH Tryz.prog md ops Q S (leftQ e + f) (mkQ n oL oC oE l0 (List.replicate n true) e n) a x) :
    ∀ (c : Nat) (A : List Bool) (e : Bool) (k : Nat) (a : Act) (x : World), remQ n A e k = c → Z A e k a x → wpAnyH Tryz.prog md ops Q S (c + f) (mkQ n oL oC oE l0 A e k) a x := by
  have fin : ∀ (c : Nat) (A : List Bool) (e : Bool) (a : Act) (x : World), remQ n A e n = c → Z A e n a x → wpAnyH Tryz.prog md ops Q S (c + f) (mkQ n oL oC oE l0 A e n) a x := by
    intro c A e a x hr h
    obtain ⟨h1, h2, h3⟩ := hlen _ _ _ _ _ h
    have hc := chkQ_at (e := e) hchk h1 h2
    have hgo : ((List.range n).all fun i => A.getD i false) = true := List.all_eq_true.2 fun i hi => h3 i (List.mem_range.1 hi)
    unfold chkQ1 at hc
    rw [hgo, if_pos (beq_self_eq_true _)] at hc
    simp only [Bool.not_true, Bool.false_or, beq_iff_eq] at hc
    have hn : c = leftQ e := by
      rw [← hr, hc]
      unfold remQ
      rw [List.countP_replicate]
      simp
    rw [hn]
    rw [hc] at h ⊢
    exact hend e a x h
  intro c
  induction c with
  | zero =>
    intro A e k a x hr h
    have h1 := (hlen _ _ _ _ _ h).2.1
    obtain rfl : k = n := by unfold remQ at hr; omega
    exact fin 0 A e a x hr h
  | succ c ih =>
    intro A e k a x hr h
    by_cases hk : k = n
    · subst hk
      exact fin (c + 1) A e a x hr h
    obtain ⟨q1, q2, q3⟩ := hlen _ _ _ _ _ h
    have h1 := chkQ_at (e := e) hchk q1 q2
    have hgo : ((List.range k).all fun i => A.getD i false) = true := List.all_eq_true.2 fun i hi => q3 i (List.mem_range.1 hi)
    unfold chkQ1 at h1
    rw [hgo, if_neg (by simp [hk])] at h1
    simp only [Bool.not_true, Bool.false_or, Bool.and_eq_true] at h1
    obtain ⟨⟨⟨⟨hne, hall⟩, hl⟩, he1⟩, hcl⟩ := h1
    rw [show c + 1 + f = (c + f) + 1 by omega]
    refine ⟨fun h0 => by rw [h0] at hne; simp at hne, fun j hj => ?_⟩
    have hj' := List.all_eq_true.1 hall j hj
    rw [Bool.or_eq_true, Bool.or_eq_true] at hj'
    rcases hj' with (hj' | hj') | hj'
    · obtain ⟨i, hi, hij⟩ := List.any_eq_true.1 hj'
      rw [Bool.and_eq_true, beq_iff_eq, beq_iff_eq] at hij
      obtain ⟨hij, hAi⟩ := hij
      have hin : i < n := List.mem_range.1 hi
      subst hij
      have hcl' := List.all_eq_true.1 hl i hi
      rw [hAi] at hcl'
      simp only [Bool.false_or, Bool.and_eq_true, beq_iff_eq] at hcl'
      obtain ⟨o', ho, hg, hwp⟩ := hlit A e k a x i h hin hAi
      refine wpOp_step ho (fun K' hK => ?_)
      rw [if_pos (by simp [Region.wanted, hg])]
      refine hwp K' (fun a' x' h' => hK _ _ ⟨hS _ _ _ _ _ h', ?_⟩)
      rw [hcl'.1]
      exact ih _ _ _ _ _ (by have := hcl'.2; omega) h'
    · rw [Bool.and_eq_true, beq_iff_eq] at hj'
      obtain ⟨rfl, he⟩ := hj'
      obtain rfl : e = false := by simpa using he
      simp only [Bool.false_or, beq_iff_eq] at he1
      obtain ⟨o', ho, hg, hwp⟩ := hone A k a x h
      refine wpOp_step ho (fun K' hK => ?_)
      rw [if_pos (by simp [Region.wanted, hg])]
      refine hwp K' (fun a' x' h' => hK _ _ ⟨hS _ _ _ _ _ h', ?_⟩)
      rw [he1]
      refine ih _ _ _ _ _ ?_ h'
      unfold remQ leftQ at hr ⊢
      simp only [Bool.false_eq_true, if_false, if_true] at hr ⊢
      omega
    · rw [Bool.and_eq_true, beq_iff_eq] at hj'
      obtain ⟨hij, hAk⟩ := hj'
      subst hij
      rw [hAk] at hcl
      simp only [Bool.not_true, Bool.false_or, Bool.and_eq_true, beq_iff_eq] at hcl
      obtain ⟨o', ho, hg, hwp⟩ := hcall A e k a x h (by omega) hAk
      refine wpOp_step ho (fun K' hK => ?_)
      rw [if_pos (by simp [Region.wanted, hg])]
      refine hwp K' (fun a' x' h' => hK _ _ ⟨hS _ _ _ _ _ h', ?_⟩)
      rw [hcl.1]
      exact ih _ _ _ _ _ (by have := hcl.2; omega) h'
theorem actQ_ext {a b : Act} (hs : a.tmps.size = b.tmps.size) (hd : a.defers = b.defers) (he : ∀ t, a.eval (.tmp t) = b.eval (.tmp t)) : a = b := by
  obtain ⟨ta, da⟩ := a
  obtain ⟨tb, db⟩ := b
  simp only at hs hd
  subst hd
  have : ta = tb := by
    apply Array.ext hs
    intro i h1 h2
    have := he i
    simpa [Act.eval, Array.getD, h1, h2] using this
  rw [this]
theorem sizeQ_put (a : Act) (d : Option Tmp) (v : Value) : (a.put d v).tmps.size = a.tmps.size := by cases d <;> simp [Act.put]
theorem defersQ_put (a : Act) (d : Option Tmp) (v : Value) : (a.put d v).defers = a.defers := by cases d <;> rfl
/-- Slots laid one behind the other. -/
def putsQ : List (Nat × Value) → Act → Act
  | [], a => a
  | (t, v) :: l, a => putsQ l (a.put (some t) v)
/-- A frame that differs in these slots alone is the frame in which they are laid. -/
theorem putsQ_is : ∀ (l : List Nat) (a a' : Act), (∀ t ∈ l, t < a.tmps.size) → l.Nodup → a'.tmps.size = a.tmps.size → a'.defers = a.defers → (∀ t, t ∉ l → a'.eval (.tmp t) = a.eval (.tmp t)) → a' = putsQ (l.map fun t => (t, a'.eval (.tmp t))) a
  | [], a, a', _, _, hs, hd, he => actQ_ext hs hd (fun t => he t (by simp))
  | t :: l, a, a', hl, hn, hs, hd, he => by
    have hn' := List.nodup_cons.1 hn
    show a' = putsQ (l.map fun t => (t, a'.eval (.tmp t))) (a.put (some t) (a'.eval (.tmp t)))
    refine putsQ_is l _ a' (fun u hu => by rw [sizeQ_put]; exact hl u (List.mem_cons_of_mem _ hu)) hn'.2 (by rw [sizeQ_put]; exact hs) (by rw [defersQ_put]; exact hd) (fun u hu => ?_)
    by_cases e : u = t
    · subst e
      rw [Act.eval_put_same _ _ _ (hl u List.mem_cons_self)]
    · rw [Act.eval_put_ne _ _ _ _ (Ne.symm e)]
      exact he u (fun q => by rcases List.mem_cons.1 q with q | q; exact e q; exact hu q)
end Go.Proofs.YtgedodcojalidaaGreat

namespace Go.Proofs.YtgedodcojalidaaGreat
open Go.RowKit

def tyJ : Nat → TypeId
  | 0 => 59
  | 1 => 62
  | _ => 36
def msJ : Nat → Nat
  | 0 => 3
  | 1 => 5
  | _ => 4
/-- Where the region stands: A: which literals are laid, e: is the box laid, k: how many calls are done. -/
structure ZJ (W0 : World) (a0 : Act) (VA VB : Nat → Value) (N : Nat → Nat) (LL : Nat → List Int) (A : List Bool) (e : Bool) (k : Nat) (a : Act) (x : World) : Prop where
  size : a.tmps.size = a0.tmps.size
  defers : a.defers = a0.defers
  rest : ∀ t : Nat, (∀ i : Nat, i < 3 → t ≠ 10 + 6 * i ∧ t ≠ 11 + 6 * i) → t ≠ 5 → a.eval (.tmp t) = a0.eval (.tmp t)
  below : Below W0.heap.size W0 x
  alen : A.length = 3
  kle : k ≤ 3
  got : ∀ i, i < k → A.getD i false = true
  laid : ∀ i, i < 3 → k ≤ i → A.getD i false = true → ∃ g, a.eval (.tmp (10 + 6 * i)) = .slice (some ⟨g, 0, none⟩) 2 2 ∧ x.cell? ⟨g, 0, none⟩ = some (VA i) ∧ x.cell? ⟨g, 1, none⟩ = some (VB i)
  done : ∀ i, i < k → ∃ ao cp, a.eval (.tmp (11 + 6 * i)) = .slice ao (N i) cp ∧ OwnM x W0.heap.size (tyJ i) (msJ i) (.slice ao (N i) cp) (N i) (LL i)
  apart : ∀ i j, i < j → j < k → ApaJ (a.eval (.tmp (11 + 6 * i))) (a.eval (.tmp (11 + 6 * j)))
  one : e = true → ∃ g, a.eval (.tmp 5) = .pointer (some ⟨g, 0, none⟩) ∧ Blk3 x g (.slice none 0 0) (.slice none 0 0) (.slice none 0 0) ∧ W0.heap.size ≤ g ∧ ∀ i, i < k → ∀ q, (a.eval (.tmp (11 + 6 * i))).ownBlock = some q → q ≠ g
theorem setJ_self {A : List Bool} {i : Nat} (h : i < A.length) (d : Bool) : (A.set i true).getD i d = true := by
  simp [List.getD_eq_getElem?_getD, h]
theorem setJ_off {A : List Bool} {i j : Nat} (h : i ≠ j) (d : Bool) : (A.set i true).getD j d = A.getD j d := by
  simp [List.getD_eq_getElem?_getD, List.getElem?_set_ne h]
section
variable {W0 : World} {a0 : Act} {VA VB : Nat → Value} {N : Nat → Nat} {LL : Nat → List Int} {A : List Bool} {e : Bool} {k : Nat} {a : Act} {x : World}
theorem ZJ.lay (h : ZJ W0 a0 VA VB N LL A e k a x) (hs : 24 ≤ a0.tmps.size) {i : Nat} (hi : i < 3) (t : TypeId) : ZJ W0 a0 VA VB N LL (A.set i true) e k (a.put (some (10 + 6 * i)) (.slice (some ⟨x.heap.size, 0, none⟩) 2 2)) (x.alloc (.cells #[VA i, VB i] t)) where
  size := by rw [sizeQ_put]; exact h.size
  defers := by rw [defersQ_put]; exact h.defers
  rest := fun u hu h5 => by rw [Act.eval_put_ne _ _ _ _ (Ne.symm (hu i hi).1)]; exact h.rest u hu h5
  below := h.below.alloc h.below.size _
  alen := by rw [List.length_set]; exact h.alen
  kle := h.kle
  got := fun j hj => by
    by_cases q : i = j
    · subst q; exact setJ_self (by rw [h.alen]; exact hi) _
    · rw [setJ_off q]; exact h.got j hj
  laid := fun j hj hkj hA => by
    by_cases q : i = j
    · subst q
      refine ⟨x.heap.size, Act.eval_put_same _ _ _ (by rw [h.size]; omega), ?_, ?_⟩
      · exact World.cell?_alloc_mark x _ _ _ 0
      · exact World.cell?_alloc_mark x _ _ _ 1
    · rw [setJ_off q] at hA
      obtain ⟨g, e1, e2, e3⟩ := h.laid j hj hkj hA
      have hb := below_alloc x (.cells #[VA i, VB i] t)
      exact ⟨g, by rw [Act.eval_put_ne _ _ _ _ (by omega)]; exact e1, (hb.cell (p := ⟨g, 0, none⟩) (World.block_lt_of_cell? x _ e2)).trans e2, (hb.cell (p := ⟨g, 1, none⟩) (World.block_lt_of_cell? x _ e3)).trans e3⟩
  done := fun j hj => by
    obtain ⟨ao, cp, e1, e2⟩ := h.done j hj
    exact ⟨ao, cp, by rw [Act.eval_put_ne _ _ _ _ (by omega)]; exact e1, e2.later (below_alloc _ _)⟩
  apart := fun j l hjl hl => by
    rw [Act.eval_put_ne _ _ _ _ (by omega), Act.eval_put_ne _ _ _ _ (by omega)]
    exact h.apart j l hjl hl
  one := fun he => by
    obtain ⟨g, e1, e2, e3, e4⟩ := h.one he
    refine ⟨g, by rw [Act.eval_put_ne _ _ _ _ (by omega)]; exact e1, e2.alloc _, e3, fun j hj q hq => ?_⟩
    rw [Act.eval_put_ne _ _ _ _ (by omega)] at hq
    exact e4 j hj q hq
theorem ZJ.call (h : ZJ W0 a0 VA VB N LL A e k a x) (hs : 24 ≤ a0.tmps.size) (hk : k < 3) (hA : A.getD k false = true) {x' : World} {ao : Option Addr} {cp : Nat} (ho : OwnM x' x.heap.size (tyJ k) (msJ k) (.slice ao (N k) cp) (N k) (LL k)) (hb : Below x.heap.size x x') : ZJ W0 a0 VA VB N LL A e (k + 1) (a.put (some (11 + 6 * k)) (.slice ao (N k) cp)) x' where
  size := by rw [sizeQ_put]; exact h.size
  defers := by rw [defersQ_put]; exact h.defers
  rest := fun u hu h5 => by rw [Act.eval_put_ne _ _ _ _ (Ne.symm (hu k hk).2)]; exact h.rest u hu h5
  below := h.below.trans (hb.mono h.below.size)
  alen := h.alen
  kle := hk
  got := fun j hj => by
    by_cases q : j = k
    · subst q; exact hA
    · exact h.got j (by omega)
  laid := fun j hj hkj hA => by
    obtain ⟨g, e1, e2, e3⟩ := h.laid j hj (by omega) hA
    exact ⟨g, by rw [Act.eval_put_ne _ _ _ _ (by omega)]; exact e1, (hb.cell (p := ⟨g, 0, none⟩) (World.block_lt_of_cell? x _ e2)).trans e2, (hb.cell (p := ⟨g, 1, none⟩) (World.block_lt_of_cell? x _ e3)).trans e3⟩
  done := fun j hj => by
    by_cases q : j = k
    · subst q
      exact ⟨ao, cp, Act.eval_put_same _ _ _ (by rw [h.size]; omega), ho.monoJ h.below.size⟩
    · obtain ⟨ao', cp', e1, e2⟩ := h.done j (by omega)
      exact ⟨ao', cp', by rw [Act.eval_put_ne _ _ _ _ (by omega)]; exact e1, e2.later hb⟩
  apart := fun j l hjl hl => by
    by_cases q : l = k
    · subst q
      rw [Act.eval_put_ne _ _ _ _ (by omega : (11 + 6 * l : Nat) ≠ 11 + 6 * j), Act.eval_put_same _ _ _ (by rw [h.size]; omega)]
      obtain ⟨ao', cp', e1, e2⟩ := h.done j hjl
      rw [e1]
      exact (ApaJ.of ho e2 (Nat.le_refl _)).symm
    · rw [Act.eval_put_ne _ _ _ _ (by omega), Act.eval_put_ne _ _ _ _ (by omega)]
      exact h.apart j l hjl (by omega)
  one := fun he => by
    obtain ⟨g, e1, e2, e3, e4⟩ := h.one he
    refine ⟨g, by rw [Act.eval_put_ne _ _ _ _ (by omega)]; exact e1, e2.later hb, e3, fun j hj q hq => ?_⟩
    by_cases r : j = k
    · subst r
      rw [Act.eval_put_same _ _ _ (by rw [h.size]; omega)] at hq
      have := (ho.block q hq).1
      have := e2.lt
      omega
    · rw [Act.eval_put_ne _ _ _ _ (by omega)] at hq
      exact e4 j (by omega) q hq
theorem ZJ.box (h : ZJ W0 a0 VA VB N LL A false k a x) (hs : 24 ≤ a0.tmps.size) (t : TypeId) : ZJ W0 a0 VA VB N LL A true k (a.put (some 5) (.pointer (some ⟨x.heap.size, 0, none⟩))) (x.alloc (.cells #[.slice none 0 0, .slice none 0 0, .slice none 0 0] t)) where
  size := by rw [sizeQ_put]; exact h.size
  defers := by rw [defersQ_put]; exact h.defers
  rest := fun u hu h5 => by rw [Act.eval_put_ne _ _ _ _ (Ne.symm h5)]; exact h.rest u hu h5
  below := h.below.alloc h.below.size _
  alen := h.alen
  kle := h.kle
  got := h.got
  laid := fun j hj hkj hA => by
    obtain ⟨g, e1, e2, e3⟩ := h.laid j hj hkj hA
    have hb := below_alloc x (.cells #[.slice none 0 0, .slice none 0 0, .slice none 0 0] t)
    exact ⟨g, by rw [Act.eval_put_ne _ _ _ _ (by omega)]; exact e1, (hb.cell (p := ⟨g, 0, none⟩) (World.block_lt_of_cell? x _ e2)).trans e2, (hb.cell (p := ⟨g, 1, none⟩) (World.block_lt_of_cell? x _ e3)).trans e3⟩
  done := fun j hj => by
    obtain ⟨ao, cp, e1, e2⟩ := h.done j hj
    exact ⟨ao, cp, by rw [Act.eval_put_ne _ _ _ _ (by omega)]; exact e1, e2.later (below_alloc _ _)⟩
  apart := fun j l hjl hl => by
    rw [Act.eval_put_ne _ _ _ _ (by omega), Act.eval_put_ne _ _ _ _ (by omega)]
    exact h.apart j l hjl hl
  one := fun _ => by
    refine ⟨x.heap.size, Act.eval_put_same _ _ _ (by rw [h.size]; omega), Blk3.new _ _ _ _ _, h.below.size, fun j hj q hq => ?_⟩
    rw [Act.eval_put_ne _ _ _ _ (by omega)] at hq
    obtain ⟨ao, cp, e1, e2⟩ := h.done j hj
    rw [e1] at hq
    have := (e2.block q hq).2
    omega
end
theorem ZJ.start {W0 : World} {a0 : Act} {VA VB : Nat → Value} {N : Nat → Nat} {LL : Nat → List Int} : ZJ W0 a0 VA VB N LL [false, false, false] false 0 a0 W0 where
  size := rfl
  defers := rfl
  rest := fun _ _ _ => rfl
  below := Below.refl _ _
  alen := rfl
  kle := Nat.zero_le _
  got := fun _ h => absurd h (Nat.not_lt_zero _)
  laid := fun i hi _ hA => by
    match i, hi with
    | 0, _ => cases hA
    | 1, _ => cases hA
    | 2, _ => cases hA
  done := fun _ h => absurd h (Nat.not_lt_zero _)
  apart := fun _ _ _ h => absurd h (Nat.not_lt_zero _)
  one := fun h => by cases h
theorem wp_litQ {o : Oper} {d : Nat} {v : Value} {c : Obj} {a : Act} {w : World} {K : Act → World → Prop} {Q : Exit → Act → World → Prop} (t : TypeId) (n : Nat) (ps : Array (Nat × Operand)) (hop : o.op = .buildSlice t n ps) (hd : o.dst = some d) (qs : Array (Nat × Value)) (hq : (ps.map fun (i, x) => (i, a.eval x)) = qs) (hr : (Instr.buildSlice t n qs).run Tryz.prog w = .ok v (w.alloc c)) (h : K (a.put (some d) v) (w.alloc c)) : Oper.wp Tryz.prog o a w K Q := by
  unfold Oper.wp execOp
  simp only [hop, hq, Sem.run_bind, hr, Result.andThen_ok, Sem.run_pure]
  show K (a.put o.dst v) (w.alloc c)
  rw [hd]
  exact h
theorem run_twoCell (p q : Option Addr) (n n' c c' : Nat) (w : World) : (Instr.buildSlice 108 2 #[(0, .slice p n c), (1, .slice q n' c')]).run Tryz.prog w = .ok (.slice (some ⟨w.heap.size, 0, none⟩) 2 2) (w.alloc (.cells #[.slice p n c, .slice q n' c'] 24)) := by
  first | kernel_rfl | rfl | go_simp
theorem wp_concCell {o : Oper} {d : Nat} {a : Act} {w : World} {K : Act → World → Prop} {Q : Exit → Act → World → Prop} (i : Nat) (ts : Array TypeId) (hop : o.op = .call { callee := .value (.func 47), args := #[.tmp i], argTypes := ts }) (hd : o.dst = some d) (h : Calls Tryz.prog 47 #[a.eval (.tmp i)] w (fun e w' => ∃ v, e = .returned v ∧ K (a.put (some d) v) w')) : Oper.wp Tryz.prog o a w K Q := by
  have he : (execOp a.eval o).run Tryz.prog w = .ok (.enter 47 #[a.eval (.tmp i)]) w := by
    unfold execOp
    simp only [hop, resolve, invoke, Sem.run_bind, List.map_toArray, List.map_cons, List.map_nil]
    generalize a.eval (.tmp i) = x
    kernel_rfl
  unfold Oper.wp
  rw [he, Oper.upon_enter]
  refine h.mono ?_
  rintro e w' ⟨v, rfl, hk⟩
  show K (a.put o.dst v) w'
  rw [hd]
  exact hk
theorem run_twoLock (p q : Option Addr) (n n' c c' : Nat) (w : World) : (Instr.buildSlice 110 2 #[(0, .slice p n c), (1, .slice q n' c')]).run Tryz.prog w = .ok (.slice (some ⟨w.heap.size, 0, none⟩) 2 2) (w.alloc (.cells #[.slice p n c, .slice q n' c'] 25)) := by
  first | kernel_rfl | rfl | go_simp
theorem wp_concLock {o : Oper} {d : Nat} {a : Act} {w : World} {K : Act → World → Prop} {Q : Exit → Act → World → Prop} (i : Nat) (ts : Array TypeId) (hop : o.op = .call { callee := .value (.func 48), args := #[.tmp i], argTypes := ts }) (hd : o.dst = some d) (h : Calls Tryz.prog 48 #[a.eval (.tmp i)] w (fun e w' => ∃ v, e = .returned v ∧ K (a.put (some d) v) w')) : Oper.wp Tryz.prog o a w K Q := by
  have he : (execOp a.eval o).run Tryz.prog w = .ok (.enter 48 #[a.eval (.tmp i)]) w := by
    unfold execOp
    simp only [hop, resolve, invoke, Sem.run_bind, List.map_toArray, List.map_cons, List.map_nil]
    generalize a.eval (.tmp i) = x
    kernel_rfl
  unfold Oper.wp
  rw [he, Oper.upon_enter]
  refine h.mono ?_
  rintro e w' ⟨v, rfl, hk⟩
  show K (a.put o.dst v) w'
  rw [hd]
  exact hk
theorem run_twoWrite (p q : Option Addr) (n n' c c' : Nat) (w : World) : (Instr.buildSlice 112 2 #[(0, .slice p n c), (1, .slice q n' c')]).run Tryz.prog w = .ok (.slice (some ⟨w.heap.size, 0, none⟩) 2 2) (w.alloc (.cells #[.slice p n c, .slice q n' c'] 26)) := by
  first | kernel_rfl | rfl | go_simp
theorem wp_concWrite {o : Oper} {d : Nat} {a : Act} {w : World} {K : Act → World → Prop} {Q : Exit → Act → World → Prop} (i : Nat) (ts : Array TypeId) (hop : o.op = .call { callee := .value (.func 49), args := #[.tmp i], argTypes := ts }) (hd : o.dst = some d) (h : Calls Tryz.prog 49 #[a.eval (.tmp i)] w (fun e w' => ∃ v, e = .returned v ∧ K (a.put (some d) v) w')) : Oper.wp Tryz.prog o a w K Q := by
  have he : (execOp a.eval o).run Tryz.prog w = .ok (.enter 49 #[a.eval (.tmp i)]) w := by
    unfold execOp
    simp only [hop, resolve, invoke, Sem.run_bind, List.map_toArray, List.map_cons, List.map_nil]
    generalize a.eval (.tmp i) = x
    kernel_rfl
  unfold Oper.wp
  rw [he, Oper.upon_enter]
  refine h.mono ?_
  rintro e w' ⟨v, rfl, hk⟩
  show K (a.put o.dst v) w'
  rw [hd]
  exact hk
theorem wp_boxQ {o : Oper} {d : Nat} {a : Act} {w : World} {K : Act → World → Prop} {Q : Exit → Act → World → Prop} (hop : o.op = .alloc 28) (hd : o.dst = some d) (h : K (a.put (some d) (.pointer (some ⟨w.heap.size, 0, none⟩))) (w.alloc (.cells #[.slice none 0 0, .slice none 0 0, .slice none 0 0] 28))) : Oper.wp Tryz.prog o a w K Q := by
  have he : (execOp a.eval o).run Tryz.prog w = .ok (.value (.pointer (some ⟨w.heap.size, 0, none⟩))) (w.alloc (.cells #[.slice none 0 0, .slice none 0 0, .slice none 0 0] 28)) := by
    unfold execOp
    simp only [hop]
    first | kernel_rfl | rfl | go_simp
  unfold Oper.wp
  rw [he, Oper.upon_value, hd]
  exact h
/-- The boxes of joined. -/
def Bx (w : World) (v0 v1 v2 y0 y1 y2 : Value) (x : World) : Prop := (Below w.heap.size w x ∧ w.heap.size + 3 ≤ x.heap.size) ∧ Blk3 x w.heap.size v0 v1 v2 ∧ Blk3 x (w.heap.size + 1) y0 y1 y2 ∧ Blk3 x (w.heap.size + 2) (.slice none 0 0) (.slice none 0 0) (.slice none 0 0)
theorem Bx.later {w x x' : World} {v0 v1 v2 y0 y1 y2 : Value} (h : Bx w v0 v1 v2 y0 y1 y2 x) (hb : Below x.heap.size x x') : Bx w v0 v1 v2 y0 y1 y2 x' := ⟨⟨h.1.1.trans (hb.mono h.1.1.size), Nat.le_trans h.1.2 hb.size⟩, h.2.1.later hb, h.2.2.1.later hb, h.2.2.2.later hb⟩
theorem Bx.far {w x : World} {v0 v1 v2 y0 y1 y2 : Value} {g j : Nat} (h : Bx w v0 v1 v2 y0 y1 y2 x) (hg : w.heap.size + 3 ≤ g) (u : Value) : Bx w v0 v1 v2 y0 y1 y2 (x.setCell ⟨g, j, none⟩ u) :=
  ⟨⟨h.1.1.setCell (by show w.heap.size ≤ g; omega) _, by simpa [World.setCell] using h.1.2⟩, h.2.1.setFar (by show w.heap.size ≠ g; omega) _, h.2.2.1.setFar (by show w.heap.size + 1 ≠ g; omega) _, h.2.2.2.setFar (by show w.heap.size + 2 ≠ g; omega) _⟩
theorem Bx.drew {w x : World} {v0 v1 v2 y0 y1 y2 : Value} (h : Bx w v0 v1 v2 y0 y1 y2 x) : Bx w v0 v1 v2 y0 y1 y2 x.drew := ⟨⟨h.1.1.drew, h.1.2⟩, h.2⟩
theorem Bx.new (w : World) (v0 v1 v2 y0 y1 y2 : Value) (t : TypeId) : Bx w v0 v1 v2 y0 y1 y2 (((w.alloc (.cells #[v0, v1, v2] t)).alloc (.cells #[y0, y1, y2] t)).alloc (.cells #[.slice none 0 0, .slice none 0 0, .slice none 0 0] t)) := by
  refine ⟨⟨((below_alloc _ _).alloc (by simp) _).alloc (by simp; omega) _, by rw [World.size_alloc, World.size_alloc, World.size_alloc]; omega⟩, ((Blk3.new w v0 v1 v2 t).alloc _).alloc _, ?_, ?_⟩
  · have := Blk3.new (w.alloc (.cells #[v0, v1, v2] t)) y0 y1 y2 t
    rw [World.size_alloc] at this
    exact this.alloc _
  · have := Blk3.new ((w.alloc (.cells #[v0, v1, v2] t)).alloc (.cells #[y0, y1, y2] t)) (.slice none 0 0) (.slice none 0 0) (.slice none 0 0) t
    rwa [World.size_alloc, World.size_alloc] at this
theorem Jog.made {w X : World} {g : Nat} {v0 v1 v2 y0 y1 y2 u0 u1 u2 : Value} {n0 n1 n2 : Nat} {L0 L1 L2 : List Int} (h : Bx w v0 v1 v2 y0 y1 y2 X) (hg : w.heap.size + 3 ≤ g) (hb : Blk3 X g (.slice none 0 0) (.slice none 0 0) (.slice none 0 0)) (o0 : OwnM X (w.heap.size + 3) 59 3 u0 n0 L0) (o1 : OwnM X (w.heap.size + 3) 62 5 u1 n1 L1) (o2 : OwnM X (w.heap.size + 3) 36 4 u2 n2 L2) (a01 : ApaJ u0 u1) (a02 : ApaJ u0 u2) (a12 : ApaJ u1 u2)
    (h0 : ∀ q, u0.ownBlock = some q → q ≠ g) (h1 : ∀ q, u1.ownBlock = some q → q ≠ g) (h2 : ∀ q, u2.ownBlock = some q → q ≠ g) : Jog w (((X.setCell ⟨g, 0, none⟩ u0).setCell ⟨g, 1, none⟩ u1).setCell ⟨g, 2, none⟩ u2) g y0 y1 y2 u0 u1 u2 n0 n1 n2 L0 L1 L2 := by
  have p : w.heap.size ≤ g := by omega
  have p1 : w.heap.size + 1 ≠ g := by omega
  have p2 : w.heap.size + 2 ≠ g := by omega
  exact ⟨((h.1.1.setCell p _).setCell p _).setCell p _, ((h.2.2.1.setFar p1 _).setFar p1 _).setFar p1 _, ((h.2.2.2.setFar p2 _).setFar p2 _).setFar p2 _, hg, ((hb.set0 u0).set1 u1).set2 u2, ((o0.farJ h0 _).farJ h0 _).farJ h0 _, ((o1.farJ h1 _).farJ h1 _).farJ h1 _, ((o2.farJ h2 _).farJ h2 _).farJ h2 _, a01, a02, a12, h0, h1, h2⟩
theorem wpAnyH_atQ {P : Program} {md : Region.Mode} {ops : Array Oper} {Q : Exit → Act → World → Prop} {S : World → Prop} {n n' : Nat} {L L' : Array Bool} {a : Act} {w : World} (hn : n = n') (hL : L = L') (h : wpAnyH P md ops Q S n' L' a w) : wpAnyH P md ops Q S n L a w := by
  subst hn hL; exact h
/-- The drawn region of joined, in whatever order. -/
theorem wpAnyH_joined {ops : Array Oper} {Q : Exit → Act → World → Prop} {S : World → Prop} {L : Array Bool} {a : Act} {W : World} (f : Nat) (VA VB : Nat → Value) (N : Nat → Nat) (LL : Nat → List Int) (hsz : 24 ≤ a.tmps.size)
    (hchk : chkQ .any ops 3 (fun i => 4 + 6 * i) (fun i => 5 + 6 * i) 19 L = true)
    (hva : ∀ i, i < 3 → a.eval (.tmp (7 + 6 * i)) = VA i ∧ a.eval (.tmp (9 + 6 * i)) = VB i)
    (hlit : ∀ i, i < 3 → ∃ o t, ops[4 + 6 * i]? = some o ∧ o.guard = none ∧ ∀ (b : Act) (x : World) (K : Act → World → Prop), b.eval (.tmp (7 + 6 * i)) = VA i → b.eval (.tmp (9 + 6 * i)) = VB i → K (b.put (some (10 + 6 * i)) (.slice (some ⟨x.heap.size, 0, none⟩) 2 2)) (x.alloc (.cells #[VA i, VB i] t)) → Oper.wp Tryz.prog o b x K Q)
    (hcall : ∀ k, k < 3 → ∃ o, ops[5 + 6 * k]? = some o ∧ o.guard = none ∧ ∀ (b : Act) (x : World) (g : Nat) (K : Act → World → Prop), b.eval (.tmp (10 + 6 * k)) = .slice (some ⟨g, 0, none⟩) 2 2 → x.cell? ⟨g, 0, none⟩ = some (VA k) → x.cell? ⟨g, 1, none⟩ = some (VB k) → Below W.heap.size W x → (∀ ao cp x', OwnM x' x.heap.size (tyJ k) (msJ k) (.slice ao (N k) cp) (N k) (LL k) → Below x.heap.size x x' → K (b.put (some (11 + 6 * k)) (.slice ao (N k) cp)) x') → Oper.wp Tryz.prog o b x K Q)
    (hone : ∃ o, ops[19]? = some o ∧ o.guard = none ∧ ∀ (b : Act) (x : World) (K : Act → World → Prop), K (b.put (some 5) (.pointer (some ⟨x.heap.size, 0, none⟩))) (x.alloc (.cells #[.slice none 0 0, .slice none 0 0, .slice none 0 0] 28)) → Oper.wp Tryz.prog o b x K Q)
    (hS : ∀ x, Below W.heap.size W x → S x)
    (hend : ∀ (e : Bool) (p0 p1 p2 : Value) (f0 f1 f2 : Option Addr) (m0 m1 m2 : Nat) (z : Value) (x : World), Below W.heap.size W x →
      (OwnM x W.heap.size 59 3 (.slice f0 (N 0) m0) (N 0) (LL 0) ∧ OwnM x W.heap.size 62 5 (.slice f1 (N 1) m1) (N 1) (LL 1) ∧ OwnM x W.heap.size 36 4 (.slice f2 (N 2) m2) (N 2) (LL 2)) →
      (ApaJ (.slice f0 (N 0) m0) (.slice f1 (N 1) m1) ∧ ApaJ (.slice f0 (N 0) m0) (.slice f2 (N 2) m2) ∧ ApaJ (.slice f1 (N 1) m1) (.slice f2 (N 2) m2)) →
      (e = true → ∃ g, z = .pointer (some ⟨g, 0, none⟩) ∧ Blk3 x g (.slice none 0 0) (.slice none 0 0) (.slice none 0 0) ∧ W.heap.size ≤ g ∧ (∀ q, (Value.slice f0 (N 0) m0).ownBlock = some q → q ≠ g) ∧ (∀ q, (Value.slice f1 (N 1) m1).ownBlock = some q → q ≠ g) ∧ ∀ q, (Value.slice f2 (N 2) m2).ownBlock = some q → q ≠ g) →
      wpAnyH Tryz.prog .any ops Q S (leftQ e + f) (mkQ 3 (fun i => 4 + 6 * i) (fun i => 5 + 6 * i) 19 L [true, true, true] e 3) (putsQ [(10, p0), (16, p1), (22, p2), (11, .slice f0 (N 0) m0), (17, .slice f1 (N 1) m1), (23, .slice f2 (N 2) m2), (5, z)] a) x) :
    wpAnyH Tryz.prog .any ops Q S (7 + f) L a W := by
  refine wpAnyH_atQ (L' := mkQ 3 (fun i => 4 + 6 * i) (fun i => 5 + 6 * i) 19 L [false, false, false] false 0) rfl rfl ?_
  refine wpAnyH_concs 3 (fun i => 4 + 6 * i) (fun i => 5 + 6 * i) 19 L f (ZJ W a VA VB N LL) hchk (fun A e k b x h => ⟨h.alen, h.kle, h.got⟩) (fun A e k b x h => hS x h.below) ?_ ?_ ?_ ?_ 7 [false, false, false] false 0 a W rfl ZJ.start
  · intro A e k b x i h hi hA
    obtain ⟨o, t, ho, hg, hwp⟩ := hlit i hi
    refine ⟨o, ho, hg, fun K hK => hwp b x K ?_ ?_ (hK _ _ (h.lay hsz hi t))⟩
    · rw [h.rest (7 + 6 * i) (fun j hj => ⟨by omega, by omega⟩) (by omega)]; exact (hva i hi).1
    · rw [h.rest (9 + 6 * i) (fun j hj => ⟨by omega, by omega⟩) (by omega)]; exact (hva i hi).2
  · intro A e k b x h hk hA
    obtain ⟨o, ho, hg, hwp⟩ := hcall k hk
    obtain ⟨g, e1, e2, e3⟩ := h.laid k hk (Nat.le_refl _) hA
    exact ⟨o, ho, hg, fun K hK => hwp b x g K e1 e2 e3 h.below (fun ao cp x' h1 h2 => hK _ _ (h.call hsz hk hA h1 h2))⟩
  · intro A k b x h
    obtain ⟨o, ho, hg, hwp⟩ := hone
    exact ⟨o, ho, hg, fun K hK => hwp b x K (hK _ _ (h.box hsz _))⟩
  · intro e b x h
    have hb := putsQ_is [10, 16, 22, 11, 17, 23, 5] a b (fun t ht => by simp at ht; omega) (by decide) h.size h.defers (fun t ht => h.rest t (fun i hi => by
      simp at ht
      match i, hi with
      | 0, _ => omega
      | 1, _ => omega
      | 2, _ => omega) (by simp at ht; omega))
    obtain ⟨f0, m0, d0, o0⟩ := h.done 0 (by omega)
    obtain ⟨f1, m1, d1, o1⟩ := h.done 1 (by omega)
    obtain ⟨f2, m2, d2, o2⟩ := h.done 2 (by omega)
    have a01 := h.apart 0 1 (by omega) (by omega)
    have a02 := h.apart 0 2 (by omega) (by omega)
    have a12 := h.apart 1 2 (by omega) (by omega)
    rw [d0, d1] at a01
    rw [d0, d2] at a02
    rw [d1, d2] at a12
    have hq := hend e (b.eval (.tmp 10)) (b.eval (.tmp 16)) (b.eval (.tmp 22)) f0 f1 f2 m0 m1 m2 (b.eval (.tmp 5)) x h.below ⟨o0, o1, o2⟩ ⟨a01, a02, a12⟩ (fun he => by
      obtain ⟨g, e1, e2, e3, e4⟩ := h.one he
      refine ⟨g, e1, e2, e3, fun q hq => e4 0 (by omega) q (by rw [d0]; exact hq), fun q hq => e4 1 (by omega) q (by rw [d1]; exact hq), fun q hq => e4 2 (by omega) q (by rw [d2]; exact hq)⟩)
    rw [← d0, ← d1, ← d2] at hq
    rw [hb]
    exact hq
set_option maxRecDepth 100000 in
set_option maxHeartbeats 8000000 in
theorem joined_any (A T : Sto) (v0 v1 v2 y0 y1 y2 : Value) (B B' : Nat) (w : World) (h : St w B A v0 v1 v2) (h' : St w B' T y0 y1 y2) (hA : A.nc ≤ 200 ∧ A.nl ≤ 200 ∧ A.nw ≤ 200) (hT : T.nc ≤ 200 ∧ T.nl ≤ 200 ∧ T.nw ≤ 200) :
    Calls Tryz.prog 21 #[.agg #[v0, v1, v2], .agg #[y0, y1, y2]] w fun e w' => ∃ P Q R, (Weak k0 k1 P ∧ P.Perm (listF 3 A.nc A.c ++ listF 3 T.nc T.c)) ∧ (Weak k0 kN Q ∧ Q.Perm (listF 5 A.nl A.l ++ listF 5 T.nl T.l)) ∧ (Weak k0 k1 R ∧ R.Perm (listF 4 A.nw A.k ++ listF 4 T.nw T.k)) ∧ NewSto w (stoOf P Q R) e w' := by
  obtain ⟨a0, c0, a1, c1, a2, c2, rfl, rfl, rfl⟩ := h.form
  obtain ⟨p0, q0, p1, q1, p2, q2, rfl, rfl, rfl⟩ := h'.form
  have H : Hid (St w B A (.slice a0 A.nc c0) (.slice a1 A.nl c1) (.slice a2 A.nw c2)) := h
  have H' : Hid (St w B' T (.slice p0 T.nc q0) (.slice p1 T.nl q1) (.slice p2 T.nw q2)) := h'
  have HA : Hid (A.nc ≤ 200 ∧ A.nl ≤ 200 ∧ A.nw ≤ 200) := hA
  have HT : Hid (T.nc ≤ 200 ∧ T.nl ≤ 200 ∧ T.nw ≤ 200) := hT
  clear h h' hA hT
  go_enter Tryz.func21, Tryz.ntmps21
  go_upto_region 1 with fail
  have E3 : Hid (Bx w (.slice a0 A.nc c0) (.slice a1 A.nl c1) (.slice a2 A.nw c2) (.slice p0 T.nc q0) (.slice p1 T.nl q1) (.slice p2 T.nw q2) (((w.alloc (.cells #[.slice a0 A.nc c0, .slice a1 A.nl c1, .slice a2 A.nw c2] 28)).alloc (.cells #[.slice p0 T.nc q0, .slice p1 T.nl q1, .slice p2 T.nw q2] 28)).alloc (.cells #[.slice none 0 0, .slice none 0 0, .slice none 0 0] 28))) := Bx.new w _ _ _ _ _ _ _
  generalize (((w.alloc (.cells #[.slice a0 A.nc c0, .slice a1 A.nl c1, .slice a2 A.nw c2] 28)).alloc (.cells #[.slice p0 T.nc q0, .slice p1 T.nl q1, .slice p2 T.nw q2] 28)).alloc (.cells #[.slice none 0 0, .slice none 0 0, .slice none 0 0] 28)) = W3 at E3 ⊢
  rw [show w.heap.size + 1 + 1 = w.heap.size + 2 from rfl]
  go_cut [5] (fun p wx => ∃ g f0 m0 f1 m1 f2 m2, p = .pointer (some ⟨g, 0, none⟩) ∧ Hid (Jog w wx g (.slice p0 T.nc q0) (.slice p1 T.nl q1) (.slice p2 T.nw q2) (.slice f0 (A.nc + T.nc) m0) (.slice f1 (A.nl + T.nl) m1) (.slice f2 (A.nw + T.nw) m2) (A.nc + T.nc) (A.nl + T.nl) (A.nw + T.nw) (nums A.c (A.nc * 3) ++ nums T.c (T.nc * 3)) (nums A.l (A.nl * 5) ++ nums T.l (T.nl * 5)) (nums A.k (A.nw * 4) ++ nums T.k (T.nw * 4))))
  case first =>
    refine wp_region_held_drew (S := Bx w (.slice a0 A.nc c0) (.slice a1 A.nl c1) (.slice a2 A.nw c2) (.slice p0 T.nc q0) (.slice p1 T.nl q1) (.slice p2 T.nw q2)) (by kernel_rfl) E3.out.drew (fun hS => ?_)
    have E4 : Hid (Bx w (.slice a0 A.nc c0) (.slice a1 A.nl c1) (.slice a2 A.nw c2) (.slice p0 T.nc q0) (.slice p1 T.nl q1) (.slice p2 T.nw q2) W3.drew) := hS
    clear E3
    generalize W3.drew = z0 at hS E4 ⊢
    refine tkH 0 ?_ hS (fun wx hx => ?_) ?_; rotate_left
    · obtain ⟨_, ⟨⟨hx0, hx1, hx2⟩, _⟩, ⟨⟨hx3, hx4, hx5⟩, _⟩, _⟩ := hx; go_simp; try with_reducible rfl
    refine tkH 1 ?_ hS (fun wx hx => ?_) ?_; rotate_left
    · obtain ⟨_, ⟨⟨hx0, hx1, hx2⟩, _⟩, ⟨⟨hx3, hx4, hx5⟩, _⟩, _⟩ := hx; go_simp; try with_reducible rfl
    refine tkH 2 ?_ hS (fun wx hx => ?_) ?_; rotate_left
    · obtain ⟨_, ⟨⟨hx0, hx1, hx2⟩, _⟩, ⟨⟨hx3, hx4, hx5⟩, _⟩, _⟩ := hx; go_simp; try with_reducible rfl
    refine tkH 3 ?_ hS (fun wx hx => ?_) ?_; rotate_left
    · obtain ⟨_, ⟨⟨hx0, hx1, hx2⟩, _⟩, ⟨⟨hx3, hx4, hx5⟩, _⟩, _⟩ := hx; go_simp; try with_reducible rfl
    refine tkH 6 ?_ hS (fun wx hx => ?_) ?_; rotate_left
    · obtain ⟨_, ⟨⟨hx0, hx1, hx2⟩, _⟩, ⟨⟨hx3, hx4, hx5⟩, _⟩, _⟩ := hx; go_simp; try with_reducible rfl
    refine tkH 7 ?_ hS (fun wx hx => ?_) ?_; rotate_left
    · obtain ⟨_, ⟨⟨hx0, hx1, hx2⟩, _⟩, ⟨⟨hx3, hx4, hx5⟩, _⟩, _⟩ := hx; go_simp; try with_reducible rfl
    refine tkH 8 ?_ hS (fun wx hx => ?_) ?_; rotate_left
    · obtain ⟨_, ⟨⟨hx0, hx1, hx2⟩, _⟩, ⟨⟨hx3, hx4, hx5⟩, _⟩, _⟩ := hx; go_simp; try with_reducible rfl
    refine tkH 9 ?_ hS (fun wx hx => ?_) ?_; rotate_left
    · obtain ⟨_, ⟨⟨hx0, hx1, hx2⟩, _⟩, ⟨⟨hx3, hx4, hx5⟩, _⟩, _⟩ := hx; go_simp; try with_reducible rfl
    refine tkH 12 ?_ hS (fun wx hx => ?_) ?_; rotate_left
    · obtain ⟨_, ⟨⟨hx0, hx1, hx2⟩, _⟩, ⟨⟨hx3, hx4, hx5⟩, _⟩, _⟩ := hx; go_simp; try with_reducible rfl
    refine tkH 13 ?_ hS (fun wx hx => ?_) ?_; rotate_left
    · obtain ⟨_, ⟨⟨hx0, hx1, hx2⟩, _⟩, ⟨⟨hx3, hx4, hx5⟩, _⟩, _⟩ := hx; go_simp; try with_reducible rfl
    refine tkH 14 ?_ hS (fun wx hx => ?_) ?_; rotate_left
    · obtain ⟨_, ⟨⟨hx0, hx1, hx2⟩, _⟩, ⟨⟨hx3, hx4, hx5⟩, _⟩, _⟩ := hx; go_simp; try with_reducible rfl
    refine tkH 15 ?_ hS (fun wx hx => ?_) ?_; rotate_left
    · obtain ⟨_, ⟨⟨hx0, hx1, hx2⟩, _⟩, ⟨⟨hx3, hx4, hx5⟩, _⟩, _⟩ := hx; go_simp; try with_reducible rfl
    try simp only [Act.put, List.getElem_toArray, List.getElem_cons_zero, List.getElem_cons_succ, List.setIfInBounds_toArray, List.set_cons_succ, List.set_cons_zero]
    refine wpAnyH_joined 2 (fun i => match i with | 0 => .slice a0 A.nc c0 | 1 => .slice a1 A.nl c1 | _ => .slice a2 A.nw c2) (fun i => match i with | 0 => .slice p0 T.nc q0 | 1 => .slice p1 T.nl q1 | _ => .slice p2 T.nw q2) (fun i => match i with | 0 => A.nc + T.nc | 1 => A.nl + T.nl | _ => A.nw + T.nw) (fun i => match i with | 0 => nums A.c (A.nc * 3) ++ nums T.c (T.nc * 3) | 1 => nums A.l (A.nl * 5) ++ nums T.l (T.nl * 5) | _ => nums A.k (A.nw * 4) ++ nums T.k (T.nw * 4)) (by simp) (by kernel_rfl) (fun i hi => ?_) (fun i hi => ?_) (fun i hi => ?_) ⟨_, rfl, rfl, fun b x K h => wp_boxQ rfl rfl h⟩ (fun x hb => E4.out.later hb) ?_
    · match i, hi with
      | 0, _ => exact ⟨rfl, rfl⟩
      | 1, _ => exact ⟨rfl, rfl⟩
      | 2, _ => exact ⟨rfl, rfl⟩
    · match i, hi with
      | 0, _ =>
        refine ⟨_, 24, rfl, rfl, fun b x K e1 e2 h => ?_⟩
        have e1' : b.eval (.tmp 7) = .slice a0 A.nc c0 := e1
        have e2' : b.eval (.tmp 9) = .slice p0 T.nc q0 := e2
        exact wp_litQ _ _ _ rfl rfl #[(0, .slice a0 A.nc c0), (1, .slice p0 T.nc q0)] (by simp [e1', e2']) (run_twoCell _ _ _ _ _ _ x) h
      | 1, _ =>
        refine ⟨_, 25, rfl, rfl, fun b x K e1 e2 h => ?_⟩
        have e1' : b.eval (.tmp 13) = .slice a1 A.nl c1 := e1
        have e2' : b.eval (.tmp 15) = .slice p1 T.nl q1 := e2
        exact wp_litQ _ _ _ rfl rfl #[(0, .slice a1 A.nl c1), (1, .slice p1 T.nl q1)] (by simp [e1', e2']) (run_twoLock _ _ _ _ _ _ x) h
      | 2, _ =>
        refine ⟨_, 26, rfl, rfl, fun b x K e1 e2 h => ?_⟩
        have e1' : b.eval (.tmp 19) = .slice a2 A.nw c2 := e1
        have e2' : b.eval (.tmp 21) = .slice p2 T.nw q2 := e2
        exact wp_litQ _ _ _ rfl rfl #[(0, .slice a2 A.nw c2), (1, .slice p2 T.nw q2)] (by simp [e1', e2']) (run_twoWrite _ _ _ _ _ _ x) h
    · match i, hi with
      | 0, _ =>
        refine ⟨_, rfl, rfl, fun b x g K e1 e2 e3 hb h => wp_concCell _ _ rfl rfl ?_⟩
        have e1' : b.eval (.tmp 10) = .slice (some ⟨g, 0, none⟩) 2 2 := e1
        rw [e1']
        have hwx := E4.out.1.1.trans (hb.mono E4.out.1.1.size)
        refine (concatCell_any g 0 A.nc T.nc A.c T.c a0 p0 c0 q0 x ⟨(H.out.1.later hwx).mono (Nat.zero_le _), (H'.out.1.later hwx).mono (Nat.zero_le _), e2, e3⟩ HA.out.1 HT.out.1).mono ?_
        rintro e x' ⟨ao, cp, rfl, o, q⟩
        exact ⟨_, rfl, h ao cp x' o q⟩
      | 1, _ =>
        refine ⟨_, rfl, rfl, fun b x g K e1 e2 e3 hb h => wp_concLock _ _ rfl rfl ?_⟩
        have e1' : b.eval (.tmp 16) = .slice (some ⟨g, 0, none⟩) 2 2 := e1
        rw [e1']
        have hwx := E4.out.1.1.trans (hb.mono E4.out.1.1.size)
        refine (concatLock_any g 0 A.nl T.nl A.l T.l a1 p1 c1 q1 x ⟨(H.out.2.1.later hwx).mono (Nat.zero_le _), (H'.out.2.1.later hwx).mono (Nat.zero_le _), e2, e3⟩ HA.out.2.1 HT.out.2.1).mono ?_
        rintro e x' ⟨ao, cp, rfl, o, q⟩
        exact ⟨_, rfl, h ao cp x' o q⟩
      | 2, _ =>
        refine ⟨_, rfl, rfl, fun b x g K e1 e2 e3 hb h => wp_concWrite _ _ rfl rfl ?_⟩
        have e1' : b.eval (.tmp 22) = .slice (some ⟨g, 0, none⟩) 2 2 := e1
        rw [e1']
        have hwx := E4.out.1.1.trans (hb.mono E4.out.1.1.size)
        refine (concatWrite_any g 0 A.nw T.nw A.k T.k a2 p2 c2 q2 x ⟨(H.out.2.2.later hwx).mono (Nat.zero_le _), (H'.out.2.2.later hwx).mono (Nat.zero_le _), e2, e3⟩ HA.out.2.2 HT.out.2.2).mono ?_
        rintro e x' ⟨ao, cp, rfl, o, q⟩
        exact ⟨_, rfl, h ao cp x' o q⟩
    · intro e r0 r1 r2 f0 f1 f2 m0 m1 m2 z x hbx ho ha hz
      try simp only [putsQ, Act.put, List.setIfInBounds_toArray, List.set_cons_succ, List.set_cons_zero]
      have hJ : ∀ (g : Nat) (X : World), Below x.heap.size x X → Blk3 X g (.slice none 0 0) (.slice none 0 0) (.slice none 0 0) → z0.heap.size ≤ g → (∀ q, (Value.slice f0 (A.nc + T.nc) m0).ownBlock = some q → q ≠ g) → (∀ q, (Value.slice f1 (A.nl + T.nl) m1).ownBlock = some q → q ≠ g) → (∀ q, (Value.slice f2 (A.nw + T.nw) m2).ownBlock = some q → q ≠ g) →
          Hid (Jog w (((X.setCell ⟨g, 0, none⟩ (.slice f0 (A.nc + T.nc) m0)).setCell ⟨g, 1, none⟩ (.slice f1 (A.nl + T.nl) m1)).setCell ⟨g, 2, none⟩ (.slice f2 (A.nw + T.nw) m2)) g (.slice p0 T.nc q0) (.slice p1 T.nl q1) (.slice p2 T.nw q2) (.slice f0 (A.nc + T.nc) m0) (.slice f1 (A.nl + T.nl) m1) (.slice f2 (A.nw + T.nw) m2) (A.nc + T.nc) (A.nl + T.nl) (A.nw + T.nw) (nums A.c (A.nc * 3) ++ nums T.c (T.nc * 3)) (nums A.l (A.nl * 5) ++ nums T.l (T.nl * 5)) (nums A.k (A.nw * 4) ++ nums T.k (T.nw * 4))) := fun g X hX hb hg h0 h1 h2 =>
        Jog.made (E4.out.later (hbx.trans (hX.mono hbx.size))) (Nat.le_trans E4.out.1.2 hg) hb ((ho.1.later hX).monoJ E4.out.1.2) ((ho.2.1.later hX).monoJ E4.out.1.2) ((ho.2.2.later hX).monoJ E4.out.1.2) ha.1 ha.2.1 ha.2.2 h0 h1 h2
      have HJ : Hid (∀ (g : Nat) (X : World), Below x.heap.size x X → Blk3 X g (.slice none 0 0) (.slice none 0 0) (.slice none 0 0) → z0.heap.size ≤ g → (∀ q, (Value.slice f0 (A.nc + T.nc) m0).ownBlock = some q → q ≠ g) → (∀ q, (Value.slice f1 (A.nl + T.nl) m1).ownBlock = some q → q ≠ g) → (∀ q, (Value.slice f2 (A.nw + T.nw) m2).ownBlock = some q → q ≠ g) →
          Hid (Jog w (((X.setCell ⟨g, 0, none⟩ (.slice f0 (A.nc + T.nc) m0)).setCell ⟨g, 1, none⟩ (.slice f1 (A.nl + T.nl) m1)).setCell ⟨g, 2, none⟩ (.slice f2 (A.nw + T.nw) m2)) g (.slice p0 T.nc q0) (.slice p1 T.nl q1) (.slice p2 T.nw q2) (.slice f0 (A.nc + T.nc) m0) (.slice f1 (A.nl + T.nl) m1) (.slice f2 (A.nw + T.nw) m2) (A.nc + T.nc) (A.nl + T.nl) (A.nw + T.nw) (nums A.c (A.nc * 3) ++ nums T.c (T.nc * 3)) (nums A.l (A.nl * 5) ++ nums T.l (T.nl * 5)) (nums A.k (A.nw * 4) ++ nums T.k (T.nw * 4)))) := hJ
      have hS : Bx w (.slice a0 A.nc c0) (.slice a1 A.nl c1) (.slice a2 A.nw c2) (.slice p0 T.nc q0) (.slice p1 T.nl q1) (.slice p2 T.nw q2) x := E4.out.later hbx
      have HO : Hid ((∀ q, (Value.slice f0 (A.nc + T.nc) m0).ownBlock = some q → q < x.heap.size) ∧ (∀ q, (Value.slice f1 (A.nl + T.nl) m1).ownBlock = some q → q < x.heap.size) ∧ ∀ q, (Value.slice f2 (A.nw + T.nw) m2).ownBlock = some q → q < x.heap.size) := ⟨fun q h => (ho.1.block q h).2, fun q h => (ho.2.1.block q h).2, fun q h => (ho.2.2.block q h).2⟩
      have HZ : Hid (z0.heap.size ≤ x.heap.size) := hbx.size
      clear hJ hbx ho ha
      cases e
      focus
        clear hz
        refine wpAnyH_atQ (n' := 3) (L' := #[true, true, true, true, true, true, true, true, true, true, true, true, true, true, true, true, true, true, false, false, false]) rfl (by kernel_rfl) ?_
        refine tkH 18 ?_ hS (fun wx hx => ?_) ?_; rotate_left
        · obtain ⟨_, ⟨⟨hx0, hx1, hx2⟩, _⟩, ⟨⟨hx3, hx4, hx5⟩, _⟩, _⟩ := hx; go_simp; try with_reducible rfl
        refine rdH 19 (fun K hK => ?_)
        go_simp
        refine hK.out _ _ (hS.later (below_alloc _ _)) (fun hS => ?_)
        clear hK K
        have gb : Hid (Blk3 (x.alloc (.cells #[.slice none 0 0, .slice none 0 0, .slice none 0 0] 28)) x.heap.size (.slice none 0 0) (.slice none 0 0) (.slice none 0 0)) := Blk3.new _ _ _ _ _
        have HJX := HJ.out x.heap.size _ (below_alloc _ _) gb.out HZ.out (fun q h => Nat.ne_of_lt (HO.out.1 q h)) (fun q h => Nat.ne_of_lt (HO.out.2.1 q h)) (fun q h => Nat.ne_of_lt (HO.out.2.2 q h))
        clear HJ HO HZ
        generalize x.alloc (.cells #[.slice none 0 0, .slice none 0 0, .slice none 0 0] 28) = X at hS gb HJX ⊢
        generalize x.heap.size = g at gb HJX ⊢
      rotate_left
      focus
        obtain ⟨g, rfl, gb', hg, n0, n1, n2⟩ := hz rfl
        have gb : Hid (Blk3 x g (.slice none 0 0) (.slice none 0 0) (.slice none 0 0)) := gb'
        have HJX := HJ.out g x (Below.refl _ _) gb' hg n0 n1 n2
        clear HJ HO HZ gb' hg n0 n1 n2
        refine wpAnyH_atQ (n' := 2) (L' := #[true, true, true, true, true, true, true, true, true, true, true, true, true, true, true, true, true, true, false, true, false]) rfl (by kernel_rfl) ?_
        refine tkH 18 ?_ hS (fun wx hx => ?_) ?_; rotate_left
        · obtain ⟨_, ⟨⟨hx0, hx1, hx2⟩, _⟩, ⟨⟨hx3, hx4, hx5⟩, _⟩, _⟩ := hx; go_simp; try with_reducible rfl
      rotate_left
      all_goals
        obtain ⟨⟨t0, t1, t2⟩, ft0, ft1, ft2⟩ := gb.out
        refine rdH 20 (fun K hK => ?_)
        go_simp
        have hge := HJX.out.lo
        refine hK.out _ _ (Bx.far (Bx.far (Bx.far hS hge _) hge _) hge _) (fun hS => ?_)
        clear hK K hS t0 t1 t2 ft0 ft1 ft2
        refine wpAnyH_done (by kernel_rfl) ?_ _
        go_simp
        go_wp2_with fail
        go_meet
        case rel => exact ⟨g, f0, m0, f1, m1, f2, m2, rfl, HJX⟩
  case rest =>
    obtain ⟨g, f0, m0, f1, m1, f2, m2, rfl, HJ⟩ := hcut
    clear E3
    have hlo := HJ.out.lo
    obtain ⟨⟨t0, t1, t2⟩, ft0, ft1, ft2⟩ := HJ.out.blk
    go_wp2_with fail
    refine (sortCellJ (w.heap.size + 3) A.nc T.nc A.c T.c f0 m0 _ HJ.out.o0 (by have := HA.out; have := HT.out; omega)).mono ?_
    rintro e w4 ⟨rfl, P, hP, ⟨rP, fP⟩, gP⟩
    have HP : Hid (P.length = A.nc + T.nc ∧ Weak k0 k1 P ∧ P.Perm (listF 3 A.nc A.c ++ listF 3 T.nc T.c)) := hP
    have b4 : Hid (Blk3 w4 g (.slice f0 (A.nc + T.nc) m0) (.slice f1 (A.nl + T.nl) m1) (.slice f2 (A.nw + T.nw) m2) ∧ Blk3 w4 (w.heap.size + 2) (.slice none 0 0) (.slice none 0 0) (.slice none 0 0) ∧ Below w.heap.size w w4) := ⟨HJ.out.blk.kept (gP.block g HJ.out.blk.lt (fun e => HJ.out.nb.1 g e.symm rfl)), HJ.out.rb.kept (gP.block _ HJ.out.rb.lt (fun e => by have := (HJ.out.o0.block _ e.symm).1; omega)), below_grownBy HJ.out.below HJ.out.below.size (fun q e => by have := (HJ.out.o0.block q e).1; omega) gP⟩
    have o4 : Hid (OwnM w4 (w.heap.size + 3) 62 5 (.slice f1 (A.nl + T.nl) m1) (A.nl + T.nl) (nums A.l (A.nl * 5) ++ nums T.l (T.nl * 5)) ∧ OwnM w4 (w.heap.size + 3) 36 4 (.slice f2 (A.nw + T.nw) m2) (A.nw + T.nw) (nums A.k (A.nw * 4) ++ nums T.k (T.nw * 4))) := ⟨HJ.out.o1.keptB (fun k hk => gP.block k (HJ.out.o1.block k hk).2 (fun e => HJ.out.a01 k e.symm hk)), HJ.out.o2.keptB (fun k hk => gP.block k (HJ.out.o2.block k hk).2 (fun e => HJ.out.a02 k e.symm hk))⟩
    have R4 : Hid ((Row w4 (w.heap.size + 3) 3 (A.nc + T.nc) (flatF P) (.slice f0 (A.nc + T.nc) m0) ∧ Free w4 ((A.nc + T.nc) * 3) (.slice f0 (A.nc + T.nc) m0)) ∧ ∀ k, (Value.slice f0 (A.nc + T.nc) m0).ownBlock = some k → w.heap.size + 3 ≤ k ∧ k < w4.heap.size) := ⟨⟨rP, fP⟩, fun k hk => ⟨(HJ.out.o0.block k hk).1, Nat.lt_of_lt_of_le (HJ.out.o0.block k hk).2 gP.size⟩⟩
    have HN : Hid ((ApaJ (.slice f0 (A.nc + T.nc) m0) (.slice f1 (A.nl + T.nl) m1) ∧ ApaJ (.slice f0 (A.nc + T.nc) m0) (.slice f2 (A.nw + T.nw) m2) ∧ ApaJ (.slice f1 (A.nl + T.nl) m1) (.slice f2 (A.nw + T.nw) m2)) ∧ (∀ k, (Value.slice f1 (A.nl + T.nl) m1).ownBlock = some k → k ≠ g) ∧ ∀ k, (Value.slice f2 (A.nw + T.nw) m2).ownBlock = some k → k ≠ g) := ⟨⟨HJ.out.a01, HJ.out.a02, HJ.out.a12⟩, HJ.out.nb.2⟩
    clear HJ hP rP fP gP t0 t1 t2 ft0 ft1 ft2
    obtain ⟨⟨t0, t1, t2⟩, ft0, ft1, ft2⟩ := b4.out.1
    go_wp2_with fail
    refine (sortLockJ (w.heap.size + 3) A.nl T.nl A.l T.l f1 m1 _ o4.out.1 (by have := HA.out; have := HT.out; omega)).mono ?_
    rintro e w5 ⟨rfl, Q, hQ, ⟨rQ, fQ⟩, gQ⟩
    have HQ : Hid (Q.length = A.nl + T.nl ∧ Weak k0 kN Q ∧ Q.Perm (listF 5 A.nl A.l ++ listF 5 T.nl T.l)) := hQ
    have b5 : Hid (Blk3 w5 g (.slice f0 (A.nc + T.nc) m0) (.slice f1 (A.nl + T.nl) m1) (.slice f2 (A.nw + T.nw) m2) ∧ Blk3 w5 (w.heap.size + 2) (.slice none 0 0) (.slice none 0 0) (.slice none 0 0) ∧ Below w.heap.size w w5) := ⟨b4.out.1.kept (gQ.block g b4.out.1.lt (fun e => HN.out.2.1 g e.symm rfl)), b4.out.2.1.kept (gQ.block _ b4.out.2.1.lt (fun e => by have := (o4.out.1.block _ e.symm).1; omega)), below_grownBy b4.out.2.2 b4.out.2.2.size (fun q e => by have := (o4.out.1.block q e).1; omega) gQ⟩
    have o5 : Hid (OwnM w5 (w.heap.size + 3) 36 4 (.slice f2 (A.nw + T.nw) m2) (A.nw + T.nw) (nums A.k (A.nw * 4) ++ nums T.k (T.nw * 4))) := o4.out.2.keptB (fun k hk => gQ.block k (o4.out.2.block k hk).2 (fun e => HN.out.1.2.2 k e.symm hk))
    have R5 : Hid (((Row w5 (w.heap.size + 3) 3 (A.nc + T.nc) (flatF P) (.slice f0 (A.nc + T.nc) m0) ∧ Free w5 ((A.nc + T.nc) * 3) (.slice f0 (A.nc + T.nc) m0)) ∧ ∀ k, (Value.slice f0 (A.nc + T.nc) m0).ownBlock = some k → w.heap.size + 3 ≤ k ∧ k < w5.heap.size) ∧ (Row w5 (w.heap.size + 3) 5 (A.nl + T.nl) (flatF Q) (.slice f1 (A.nl + T.nl) m1) ∧ Free w5 ((A.nl + T.nl) * 5) (.slice f1 (A.nl + T.nl) m1)) ∧ ∀ k, (Value.slice f1 (A.nl + T.nl) m1).ownBlock = some k → w.heap.size + 3 ≤ k ∧ k < w5.heap.size) := ⟨⟨⟨R4.out.1.1.kept gQ.size (fun k hk hl => gQ.block k hl (fun e => HN.out.1.1 k hk e.symm)), R4.out.1.2.keptJ (fun k hk => gQ.block k (R4.out.2 k hk).2 (fun e => HN.out.1.1 k hk e.symm))⟩, fun k hk => ⟨(R4.out.2 k hk).1, Nat.lt_of_lt_of_le (R4.out.2 k hk).2 gQ.size⟩⟩, ⟨rQ, fQ⟩, fun k hk => ⟨(o4.out.1.block k hk).1, Nat.lt_of_lt_of_le (o4.out.1.block k hk).2 gQ.size⟩⟩
    clear R4 o4 b4 hQ rQ fQ gQ t0 t1 t2 ft0 ft1 ft2
    obtain ⟨⟨t0, t1, t2⟩, ft0, ft1, ft2⟩ := b5.out.1
    go_wp2_with fail
    refine (sortWriteJ (w.heap.size + 3) A.nw T.nw A.k T.k f2 m2 _ o5.out (by have := HA.out; have := HT.out; omega)).mono ?_
    rintro e w6 ⟨rfl, R, hR, ⟨rR, fR⟩, gR⟩
    have HR : Hid (R.length = A.nw + T.nw ∧ Weak k0 k1 R ∧ R.Perm (listF 4 A.nw A.k ++ listF 4 T.nw T.k)) := hR
    have b6 : Hid (Blk3 w6 g (.slice f0 (A.nc + T.nc) m0) (.slice f1 (A.nl + T.nl) m1) (.slice f2 (A.nw + T.nw) m2) ∧ Blk3 w6 (w.heap.size + 2) (.slice none 0 0) (.slice none 0 0) (.slice none 0 0) ∧ Below w.heap.size w w6) := ⟨b5.out.1.kept (gR.block g b5.out.1.lt (fun e => HN.out.2.2 g e.symm rfl)), b5.out.2.1.kept (gR.block _ b5.out.2.1.lt (fun e => by have := (o5.out.block _ e.symm).1; omega)), below_grownBy b5.out.2.2 b5.out.2.2.size (fun q e => by have := (o5.out.block q e).1; omega) gR⟩
    have R6 : Hid ((Row w6 (w.heap.size + 3) 3 (A.nc + T.nc) (flatF P) (.slice f0 (A.nc + T.nc) m0) ∧ Free w6 ((A.nc + T.nc) * 3) (.slice f0 (A.nc + T.nc) m0)) ∧ (Row w6 (w.heap.size + 3) 5 (A.nl + T.nl) (flatF Q) (.slice f1 (A.nl + T.nl) m1) ∧ Free w6 ((A.nl + T.nl) * 5) (.slice f1 (A.nl + T.nl) m1)) ∧ Row w6 (w.heap.size + 3) 4 (A.nw + T.nw) (flatF R) (.slice f2 (A.nw + T.nw) m2) ∧ Free w6 ((A.nw + T.nw) * 4) (.slice f2 (A.nw + T.nw) m2)) := ⟨⟨R5.out.1.1.1.kept gR.size (fun k hk hl => gR.block k hl (fun e => HN.out.1.2.1 k hk e.symm)), R5.out.1.1.2.keptJ (fun k hk => gR.block k (R5.out.1.2 k hk).2 (fun e => HN.out.1.2.1 k hk e.symm))⟩, ⟨R5.out.2.1.1.kept gR.size (fun k hk hl => gR.block k hl (fun e => HN.out.1.2.2 k hk e.symm)), R5.out.2.1.2.keptJ (fun k hk => gR.block k (R5.out.2.2 k hk).2 (fun e => HN.out.1.2.2 k hk e.symm))⟩, rR, fR⟩
    clear R5 o5 b5 hR rR fR gR t0 t1 t2 ft0 ft1 ft2
    obtain ⟨⟨t0, t1, t2⟩, ft0, ft1, ft2⟩ := b6.out.1
    obtain ⟨⟨r0, r1, r2⟩, fr0, fr1, fr2⟩ := b6.out.2.1
    have hS : Hid (stoOf P Q R = ⟨A.nc + T.nc, flatF P, A.nl + T.nl, flatF Q, A.nw + T.nw, flatF R⟩) := by
      unfold Hid stoOf
      rw [HP.out.1, HQ.out.1, HR.out.1]
    have hlo2 : (w.heap.size + 2 : Nat) < w.heap.size + 3 := Nat.lt_succ_self _
    go_wp2
    refine bodyPost_ret (v := .agg #[.slice f0 (A.nc + T.nc) m0, .slice f1 (A.nl + T.nl) m1, .slice f2 (A.nw + T.nw) m2]) (by simp [results, Tryz.results21, go_sem, r0, r1, r2]) rfl ⟨P, Q, R, HP.out.2, HQ.out.2, HR.out.2, ?_⟩
    rw [hS.out]
    refine ⟨f0, m0, f1, m1, f2, m2, rfl, ⟨⟨?_, ?_, ?_⟩, ⟨?_, ?_, ?_⟩, ?_⟩, ?_⟩
    · exact (((R6.out.1.1.far (Or.inl hlo2) _).far (Or.inl hlo2) _).far (Or.inl hlo2) _).mono (by omega)
    · exact (((R6.out.2.1.1.far (Or.inl hlo2) _).far (Or.inl hlo2) _).far (Or.inl hlo2) _).mono (by omega)
    · exact (((R6.out.2.2.1.far (Or.inl hlo2) _).far (Or.inl hlo2) _).far (Or.inl hlo2) _).mono (by omega)
    · exact ((R6.out.1.2.far _ _).far _ _).far _ _
    · exact ((R6.out.2.1.2.far _ _).far _ _).far _ _
    · exact ((R6.out.2.2.2.far _ _).far _ _).far _ _
    · exact apartD_apj (R := ⟨_, _, _, _, _, _⟩) R6.out.1.1 R6.out.2.1.1 HN.out.1.1 HN.out.1.2.1 HN.out.1.2.2
    · exact ((b6.out.2.2.setCell (by simp) _).setCell (by simp) _).setCell (by simp) _
end Go.Proofs.YtgedodcojalidaaGreat

namespace Go.Proofs.YtgedodcojalidaaGreat
open Go.RowKit

/-- A call over two stores whose answer is a code and a store. -/
def CallJ (w : World) (B : Nat) (A T : Sto) (v0 v1 v2 y0 y1 y2 : Value) (x : World) : Prop := Blk3 x w.heap.size v0 v1 v2 ∧ Blk3 x (w.heap.size + 1) y0 y1 y2 ∧ Blk4 x (w.heap.size + 2) (.int .i64 0) (.slice none 0 0) (.slice none 0 0) (.slice none 0 0) ∧ St x B A v0 v1 v2 ∧ St x B T y0 y1 y2 ∧ Below w.heap.size w x
theorem CallJ.later {w x x' : World} {B : Nat} {A T : Sto} {v0 v1 v2 y0 y1 y2 : Value} (h : CallJ w B A T v0 v1 v2 y0 y1 y2 x) (hb : Below x.heap.size x x') : CallJ w B A T v0 v1 v2 y0 y1 y2 x' := ⟨h.1.later hb, h.2.1.later hb, h.2.2.1.later hb, h.2.2.2.1.later hb, h.2.2.2.2.1.later hb, h.2.2.2.2.2.trans (hb.mono h.2.2.2.2.2.size)⟩
theorem CallJ.new {w : World} {B : Nat} {A T : Sto} {v0 v1 v2 y0 y1 y2 : Value} (h : St w B A v0 v1 v2) (h' : St w B T y0 y1 y2) (t t' : TypeId) : CallJ w B A T v0 v1 v2 y0 y1 y2 (((w.alloc (.cells #[v0, v1, v2] t)).alloc (.cells #[y0, y1, y2] t)).alloc (.cells #[.int .i64 0, .slice none 0 0, .slice none 0 0, .slice none 0 0] t')) := by
  refine ⟨((Blk3.new w v0 v1 v2 t).alloc _).alloc _, ?_, ?_, ((h.alloc _).alloc _).alloc _, ((h'.alloc _).alloc _).alloc _, ((below_alloc _ _).alloc (by simp) _).alloc (by simp; omega) _⟩
  · have := Blk3.new (w.alloc (.cells #[v0, v1, v2] t)) y0 y1 y2 t
    rw [World.size_alloc] at this
    exact this.alloc _
  · have := Blk4.new ((w.alloc (.cells #[v0, v1, v2] t)).alloc (.cells #[y0, y1, y2] t)) (.int .i64 0) (.slice none 0 0) (.slice none 0 0) (.slice none 0 0) t'
    rwa [World.size_alloc, World.size_alloc] at this
set_option maxRecDepth 100000 in
set_option maxHeartbeats 8000000 in
theorem implJoin_is (A T : Sto) (v0 v1 v2 y0 y1 y2 : Value) (c : Int) (R : Sto) (B : Nat) (w : World) (h : St w B A v0 v1 v2) (h' : St w B T y0 y1 y2) (hA : JoinAns A T c R) :
    Calls Tryz.prog 8 #[.agg #[v0, v1, v2], .agg #[y0, y1, y2]] w (ResSto w c R) := by
  obtain ⟨a0, c0, a1, c1, a2, c2, rfl, rfl, rfl⟩ := h.form
  obtain ⟨p0, q0, p1, q1, p2, q2, rfl, rfl, rfl⟩ := h'.form
  have HE : Hid (CallJ w B A T (.slice a0 A.nc c0) (.slice a1 A.nl c1) (.slice a2 A.nw c2) (.slice p0 T.nc q0) (.slice p1 T.nl q1) (.slice p2 T.nw q2) (((w.alloc (.cells #[.slice a0 A.nc c0, .slice a1 A.nl c1, .slice a2 A.nw c2] 28)).alloc (.cells #[.slice p0 T.nc q0, .slice p1 T.nl q1, .slice p2 T.nw q2] 28)).alloc (.cells #[.int .i64 0, .slice none 0 0, .slice none 0 0, .slice none 0 0] 32))) := CallJ.new h h' _ _
  clear h h'
  unfold ResSto
  rcases hA with ⟨hz, rfl, rfl⟩ | ⟨hz, hz2, rfl, rfl⟩ | ⟨hz, hz2, hz3, rfl, rfl⟩ | ⟨hz, hz2, hz3, rfl, rfl⟩
  · obtain ⟨f, hf⟩ : ∃ f, storeF A = f := ⟨_, rfl⟩
    have HF : Hid (storeF A = f) := hf
    have hfn : (f == 0) = false := beq_eq_false_iff_ne.2 (by rw [← hf]; exact hz)
    rw [hf]
    clear hz hf
    go_enter Tryz.func8, Tryz.ntmps8
    go_upto_region 1 with fail
    rw [show w.heap.size + 1 + 1 = w.heap.size + 2 from rfl]
    go_wp2_with fail
    refine (implFault_any A _ _ _ B _ HE.out.2.2.2.1).mono ?_
    rw [HF.out]
    rintro e w1 ⟨rfl, qx⟩
    have HE : Hid (CallJ w B A T (.slice a0 A.nc c0) (.slice a1 A.nl c1) (.slice a2 A.nw c2) (.slice p0 T.nc q0) (.slice p1 T.nl q1) (.slice p2 T.nw q2) w1) := HE.out.later qx
    obtain ⟨⟨⟨s0, s1, s2⟩, _⟩, ⟨⟨t0, t1, t2⟩, _⟩, ⟨⟨r0, r1, r2, r3⟩, f0, f1, f2, f3⟩, _⟩ := HE.out
    clear qx
    go_wp2
    exact bodyPost_ret (v := .agg #[.int .i64 f, .slice none 0 0, .slice none 0 0, .slice none 0 0]) (by simp [results, Tryz.results8, go_sem, r0, r1, r2, r3]) rfl ⟨none, 0, none, 0, none, 0, rfl, empty_sto _ _, (((HE.out.2.2.2.2.2.setCell (by simp) _).setCell (by simp) _).setCell (by simp) _).setCell (by simp) _⟩
  · obtain ⟨f, hf⟩ : ∃ f, storeF T = f := ⟨_, rfl⟩
    have H0 : Hid (storeF A = 0) := hz
    have HF : Hid (storeF T = f) := hf
    have hfn : (f == 0) = false := beq_eq_false_iff_ne.2 (by rw [← hf]; exact hz2)
    rw [hf]
    clear hz hz2 hf
    go_enter Tryz.func8, Tryz.ntmps8
    go_upto_region 1 with fail
    rw [show w.heap.size + 1 + 1 = w.heap.size + 2 from rfl]
    go_wp2_with fail
    refine (implFault_any A _ _ _ B _ HE.out.2.2.2.1).mono ?_
    rw [H0.out]
    rintro e w1 ⟨rfl, qx⟩
    have HE : Hid (CallJ w B A T (.slice a0 A.nc c0) (.slice a1 A.nl c1) (.slice a2 A.nw c2) (.slice p0 T.nc q0) (.slice p1 T.nl q1) (.slice p2 T.nw q2) w1) := HE.out.later qx
    obtain ⟨⟨⟨s0, s1, s2⟩, _⟩, ⟨⟨t0, t1, t2⟩, _⟩, ⟨⟨r0, r1, r2, r3⟩, f0, f1, f2, f3⟩, _⟩ := HE.out
    clear qx
    go_wp2_with fail
    refine (implFault_any T _ _ _ B _ HE.out.2.2.2.2.1).mono ?_
    rw [HF.out]
    rintro e w2 ⟨rfl, qx⟩
    clear s0 s1 s2 t0 t1 t2 r0 r1 r2 r3 f0 f1 f2 f3
    have HE : Hid (CallJ w B A T (.slice a0 A.nc c0) (.slice a1 A.nl c1) (.slice a2 A.nw c2) (.slice p0 T.nc q0) (.slice p1 T.nl q1) (.slice p2 T.nw q2) w2) := HE.out.later qx
    obtain ⟨⟨⟨s0, s1, s2⟩, _⟩, ⟨⟨t0, t1, t2⟩, _⟩, ⟨⟨r0, r1, r2, r3⟩, f0, f1, f2, f3⟩, _⟩ := HE.out
    clear qx
    go_wp2
    exact bodyPost_ret (v := .agg #[.int .i64 f, .slice none 0 0, .slice none 0 0, .slice none 0 0]) (by simp [results, Tryz.results8, go_sem, r0, r1, r2, r3]) rfl ⟨none, 0, none, 0, none, 0, rfl, empty_sto _ _, (((HE.out.2.2.2.2.2.setCell (by simp) _).setCell (by simp) _).setCell (by simp) _).setCell (by simp) _⟩
  · have H0 : Hid (storeF A = 0) := hz
    have H1 : Hid (storeF T = 0) := hz2
    have N0 : Hid (A.nc ≤ 200 ∧ A.nl ≤ 200 ∧ A.nw ≤ 200) := (storeF_zero hz).1
    have N1 : Hid (T.nc ≤ 200 ∧ T.nl ≤ 200 ∧ T.nw ≤ 200) := (storeF_zero hz2).1
    obtain ⟨f, hf⟩ : ∃ f, storeF (joinS A T) = f := ⟨_, rfl⟩
    have H2 : Hid (storeF (joinS A T) = f) := hf
    have hfn : (f == 0) = false := beq_eq_false_iff_ne.2 (by rw [← hf]; exact hz3)
    rw [hf]
    clear hz hz2 hz3 hf
    go_enter Tryz.func8, Tryz.ntmps8
    go_upto_region 1 with fail
    rw [show w.heap.size + 1 + 1 = w.heap.size + 2 from rfl]
    go_wp2_with fail
    refine (implFault_any A _ _ _ B _ HE.out.2.2.2.1).mono ?_
    rw [H0.out]
    rintro e w1 ⟨rfl, qx⟩
    have HE : Hid (CallJ w B A T (.slice a0 A.nc c0) (.slice a1 A.nl c1) (.slice a2 A.nw c2) (.slice p0 T.nc q0) (.slice p1 T.nl q1) (.slice p2 T.nw q2) w1) := HE.out.later qx
    obtain ⟨⟨⟨s0, s1, s2⟩, _⟩, ⟨⟨t0, t1, t2⟩, _⟩, ⟨⟨r0, r1, r2, r3⟩, f0, f1, f2, f3⟩, _⟩ := HE.out
    clear qx
    go_wp2_with fail
    refine (implFault_any T _ _ _ B _ HE.out.2.2.2.2.1).mono ?_
    rw [H1.out]
    rintro e w2 ⟨rfl, qx⟩
    clear s0 s1 s2 t0 t1 t2 r0 r1 r2 r3 f0 f1 f2 f3
    have HE : Hid (CallJ w B A T (.slice a0 A.nc c0) (.slice a1 A.nl c1) (.slice a2 A.nw c2) (.slice p0 T.nc q0) (.slice p1 T.nl q1) (.slice p2 T.nw q2) w2) := HE.out.later qx
    obtain ⟨⟨⟨s0, s1, s2⟩, _⟩, ⟨⟨t0, t1, t2⟩, _⟩, ⟨⟨r0, r1, r2, r3⟩, f0, f1, f2, f3⟩, _⟩ := HE.out
    clear qx
    go_wp2_with fail
    refine (joined_any A T _ _ _ _ _ _ B B _ HE.out.2.2.2.1 HE.out.2.2.2.2.1 N0.out N1.out).mono ?_
    rintro e w3 ⟨P, Q, R, hP, hQ, hR, d0, e0, d1, e1, d2, e2, rfl, ⟨s3, f3', a3⟩, qx⟩
    have hsame := (join_same H0.out H1.out hP hQ hR).1
    rw [H2.out] at hsame
    have hsz : stoOf P Q R = stoOf P Q R := rfl
    generalize stoOf P Q R = J at hsame s3 f3' a3 ⊢
    clear hsz hP hQ hR P Q R
    clear H2
    have HX : Hid ((St (w3.alloc (.cells #[.slice d0 J.nc e0, .slice d1 J.nl e1, .slice d2 J.nw e2] 28)) (w.heap.size + 3) J (.slice d0 J.nc e0) (.slice d1 J.nl e1) (.slice d2 J.nw e2) ∧ FreeS (w3.alloc (.cells #[.slice d0 J.nc e0, .slice d1 J.nl e1, .slice d2 J.nw e2] 28)) J (.slice d0 J.nc e0) (.slice d1 J.nl e1) (.slice d2 J.nw e2) ∧ ApartD J (.slice d0 J.nc e0) (.slice d1 J.nl e1) (.slice d2 J.nw e2)) ∧ Blk3 (w3.alloc (.cells #[.slice d0 J.nc e0, .slice d1 J.nl e1, .slice d2 J.nw e2] 28)) w3.heap.size (.slice d0 J.nc e0) (.slice d1 J.nl e1) (.slice d2 J.nw e2)) := by
      have hge : w.heap.size + 3 ≤ w2.heap.size := HE.out.2.2.1.lt
      exact ⟨⟨(s3.mono hge).alloc _, f3'.later s3 (below_alloc _ _), a3⟩, Blk3.new _ _ _ _ _⟩
    clear s0 s1 s2 t0 t1 t2 r0 r1 r2 r3 f0 f1 f2 f3
    have HE : Hid (CallJ w B A T (.slice a0 A.nc c0) (.slice a1 A.nl c1) (.slice a2 A.nw c2) (.slice p0 T.nc q0) (.slice p1 T.nl q1) (.slice p2 T.nw q2) (w3.alloc (.cells #[.slice d0 J.nc e0, .slice d1 J.nl e1, .slice d2 J.nw e2] 28))) := (HE.out.later qx).later (below_alloc _ _)
    clear s3 f3' a3 qx
    have HF : Hid (storeF J = f) := hsame
    clear hsame
    go_upto_region 8 with fail
    generalize w3.alloc (.cells #[.slice d0 J.nc e0, .slice d1 J.nl e1, .slice d2 J.nw e2] 28) = x4 at HX HE ⊢
    generalize w3.heap.size = b at HX ⊢
    obtain ⟨⟨⟨s0, s1, s2⟩, _⟩, ⟨⟨t0, t1, t2⟩, _⟩, ⟨⟨r0, r1, r2, r3⟩, f0, f1, f2, f3⟩, _⟩ := HE.out
    obtain ⟨⟨u0, u1, u2⟩, _⟩ := HX.out.2
    go_wp2_with fail
    refine (implFault_any J _ _ _ (w.heap.size + 3) _ HX.out.1.1).mono ?_
    rw [HF.out]
    rintro e w5 ⟨rfl, qx⟩
    clear s0 s1 s2 t0 t1 t2 r0 r1 r2 r3 f0 f1 f2 f3 u0 u1 u2
    have HX5 : Hid ((St w5 (w.heap.size + 3) J (.slice d0 J.nc e0) (.slice d1 J.nl e1) (.slice d2 J.nw e2) ∧ FreeS w5 J (.slice d0 J.nc e0) (.slice d1 J.nl e1) (.slice d2 J.nw e2) ∧ ApartD J (.slice d0 J.nc e0) (.slice d1 J.nl e1) (.slice d2 J.nw e2)) ∧ Blk3 w5 b (.slice d0 J.nc e0) (.slice d1 J.nl e1) (.slice d2 J.nw e2)) := ⟨⟨HX.out.1.1.later qx, HX.out.1.2.1.later HX.out.1.1 qx, HX.out.1.2.2⟩, HX.out.2.later qx⟩
    clear HX
    have HE : Hid (CallJ w B A T (.slice a0 A.nc c0) (.slice a1 A.nl c1) (.slice a2 A.nw c2) (.slice p0 T.nc q0) (.slice p1 T.nl q1) (.slice p2 T.nw q2) w5) := HE.out.later qx
    obtain ⟨⟨⟨s0, s1, s2⟩, _⟩, ⟨⟨t0, t1, t2⟩, _⟩, ⟨⟨r0, r1, r2, r3⟩, f0, f1, f2, f3⟩, _⟩ := HE.out
    clear qx
    obtain ⟨⟨u0, u1, u2⟩, _⟩ := HX5.out.2
    go_wp2
    exact bodyPost_ret (v := .agg #[.int .i64 f, .slice none 0 0, .slice none 0 0, .slice none 0 0]) (by simp [results, Tryz.results8, go_sem, r0, r1, r2, r3]) rfl ⟨none, 0, none, 0, none, 0, rfl, empty_sto _ _, (((HE.out.2.2.2.2.2.setCell (by simp) _).setCell (by simp) _).setCell (by simp) _).setCell (by simp) _⟩
  · have H0 : Hid (storeF A = 0) := hz
    have H1 : Hid (storeF T = 0) := hz2
    have N0 : Hid (A.nc ≤ 200 ∧ A.nl ≤ 200 ∧ A.nw ≤ 200) := (storeF_zero hz).1
    have N1 : Hid (T.nc ≤ 200 ∧ T.nl ≤ 200 ∧ T.nw ≤ 200) := (storeF_zero hz2).1
    have H2 : Hid (storeF (joinS A T) = 0) := hz3
    obtain ⟨J, hJ⟩ : ∃ J, joinS A T = J := ⟨_, rfl⟩
    have HJ : Hid (joinS A T = J) := hJ
    rw [hJ]
    clear hz hz2 hz3 hJ
    go_enter Tryz.func8, Tryz.ntmps8
    go_upto_region 1 with fail
    rw [show w.heap.size + 1 + 1 = w.heap.size + 2 from rfl]
    go_wp2_with fail
    refine (implFault_any A _ _ _ B _ HE.out.2.2.2.1).mono ?_
    rw [H0.out]
    rintro e w1 ⟨rfl, qx⟩
    have HE : Hid (CallJ w B A T (.slice a0 A.nc c0) (.slice a1 A.nl c1) (.slice a2 A.nw c2) (.slice p0 T.nc q0) (.slice p1 T.nl q1) (.slice p2 T.nw q2) w1) := HE.out.later qx
    obtain ⟨⟨⟨s0, s1, s2⟩, _⟩, ⟨⟨t0, t1, t2⟩, _⟩, ⟨⟨r0, r1, r2, r3⟩, f0, f1, f2, f3⟩, _⟩ := HE.out
    clear qx
    go_wp2_with fail
    refine (implFault_any T _ _ _ B _ HE.out.2.2.2.2.1).mono ?_
    rw [H1.out]
    rintro e w2 ⟨rfl, qx⟩
    clear s0 s1 s2 t0 t1 t2 r0 r1 r2 r3 f0 f1 f2 f3
    have HE : Hid (CallJ w B A T (.slice a0 A.nc c0) (.slice a1 A.nl c1) (.slice a2 A.nw c2) (.slice p0 T.nc q0) (.slice p1 T.nl q1) (.slice p2 T.nw q2) w2) := HE.out.later qx
    obtain ⟨⟨⟨s0, s1, s2⟩, _⟩, ⟨⟨t0, t1, t2⟩, _⟩, ⟨⟨r0, r1, r2, r3⟩, f0, f1, f2, f3⟩, _⟩ := HE.out
    clear qx
    go_wp2_with fail
    refine (joined_any A T _ _ _ _ _ _ B B _ HE.out.2.2.2.1 HE.out.2.2.2.2.1 N0.out N1.out).mono ?_
    rintro e w3 ⟨P, Q, R, hP, hQ, hR, d0, e0, d1, e1, d2, e2, rfl, ⟨s3, f3', a3⟩, qx⟩
    have hsame := join_same H0.out H1.out hP hQ hR
    rw [hsame.2 H2.out] at s3 f3' a3 ⊢
    have hsame := H2.out
    rw [HJ.out] at hsame s3 f3' a3 ⊢
    clear H2
    have HX : Hid ((St (w3.alloc (.cells #[.slice d0 J.nc e0, .slice d1 J.nl e1, .slice d2 J.nw e2] 28)) (w.heap.size + 3) J (.slice d0 J.nc e0) (.slice d1 J.nl e1) (.slice d2 J.nw e2) ∧ FreeS (w3.alloc (.cells #[.slice d0 J.nc e0, .slice d1 J.nl e1, .slice d2 J.nw e2] 28)) J (.slice d0 J.nc e0) (.slice d1 J.nl e1) (.slice d2 J.nw e2) ∧ ApartD J (.slice d0 J.nc e0) (.slice d1 J.nl e1) (.slice d2 J.nw e2)) ∧ Blk3 (w3.alloc (.cells #[.slice d0 J.nc e0, .slice d1 J.nl e1, .slice d2 J.nw e2] 28)) w3.heap.size (.slice d0 J.nc e0) (.slice d1 J.nl e1) (.slice d2 J.nw e2)) := by
      have hge : w.heap.size + 3 ≤ w2.heap.size := HE.out.2.2.1.lt
      exact ⟨⟨(s3.mono hge).alloc _, f3'.later s3 (below_alloc _ _), a3⟩, Blk3.new _ _ _ _ _⟩
    clear s0 s1 s2 t0 t1 t2 r0 r1 r2 r3 f0 f1 f2 f3
    have HE : Hid (CallJ w B A T (.slice a0 A.nc c0) (.slice a1 A.nl c1) (.slice a2 A.nw c2) (.slice p0 T.nc q0) (.slice p1 T.nl q1) (.slice p2 T.nw q2) (w3.alloc (.cells #[.slice d0 J.nc e0, .slice d1 J.nl e1, .slice d2 J.nw e2] 28))) := (HE.out.later qx).later (below_alloc _ _)
    clear s3 f3' a3 qx
    have HF : Hid (storeF J = 0) := hsame
    clear hsame
    go_upto_region 8 with fail
    generalize w3.alloc (.cells #[.slice d0 J.nc e0, .slice d1 J.nl e1, .slice d2 J.nw e2] 28) = x4 at HX HE ⊢
    generalize w3.heap.size = b at HX ⊢
    obtain ⟨⟨⟨s0, s1, s2⟩, _⟩, ⟨⟨t0, t1, t2⟩, _⟩, ⟨⟨r0, r1, r2, r3⟩, f0, f1, f2, f3⟩, _⟩ := HE.out
    obtain ⟨⟨u0, u1, u2⟩, _⟩ := HX.out.2
    go_wp2_with fail
    refine (implFault_any J _ _ _ (w.heap.size + 3) _ HX.out.1.1).mono ?_
    rw [HF.out]
    rintro e w5 ⟨rfl, qx⟩
    clear s0 s1 s2 t0 t1 t2 r0 r1 r2 r3 f0 f1 f2 f3 u0 u1 u2
    have HX5 : Hid ((St w5 (w.heap.size + 3) J (.slice d0 J.nc e0) (.slice d1 J.nl e1) (.slice d2 J.nw e2) ∧ FreeS w5 J (.slice d0 J.nc e0) (.slice d1 J.nl e1) (.slice d2 J.nw e2) ∧ ApartD J (.slice d0 J.nc e0) (.slice d1 J.nl e1) (.slice d2 J.nw e2)) ∧ Blk3 w5 b (.slice d0 J.nc e0) (.slice d1 J.nl e1) (.slice d2 J.nw e2)) := ⟨⟨HX.out.1.1.later qx, HX.out.1.2.1.later HX.out.1.1 qx, HX.out.1.2.2⟩, HX.out.2.later qx⟩
    clear HX
    have HE : Hid (CallJ w B A T (.slice a0 A.nc c0) (.slice a1 A.nl c1) (.slice a2 A.nw c2) (.slice p0 T.nc q0) (.slice p1 T.nl q1) (.slice p2 T.nw q2) w5) := HE.out.later qx
    obtain ⟨⟨⟨s0, s1, s2⟩, _⟩, ⟨⟨t0, t1, t2⟩, _⟩, ⟨⟨r0, r1, r2, r3⟩, f0, f1, f2, f3⟩, _⟩ := HE.out
    clear qx
    obtain ⟨⟨u0, u1, u2⟩, _⟩ := HX5.out.2
    go_wp2
    have hlo : (w.heap.size + 2 : Nat) < w.heap.size + 3 := Nat.lt_succ_self _
    exact bodyPost_ret (v := .agg #[.int .i64 0, .slice d0 J.nc e0, .slice d1 J.nl e1, .slice d2 J.nw e2]) (by simp [results, Tryz.results8, go_sem, r0, r1, r2, r3]) rfl ⟨d0, e0, d1, e1, d2, e2, rfl, ⟨((((HX5.out.1.1.far hlo _).far hlo _).far hlo _).far hlo _).mono (by omega), (((HX5.out.1.2.1.far _ _).far _ _).far _ _).far _ _, HX5.out.1.2.2⟩, (((HE.out.2.2.2.2.2.setCell (by simp) _).setCell (by simp) _).setCell (by simp) _).setCell (by simp) _⟩
theorem JoinAns.get (A T : Sto) : ∃ c R, (R.nc ≤ 1048576 ∧ R.nl ≤ 1048576 ∧ R.nw ≤ 1048576) ∧ JoinAns A T c R := by
  by_cases h1 : storeF A = 0
  · by_cases h2 : storeF T = 0
    · by_cases h3 : storeF (joinS A T) = 0
      · have n := (storeF_zero h3).1
        exact ⟨0, joinS A T, ⟨by omega, by omega, by omega⟩, Or.inr (Or.inr (Or.inr ⟨h1, h2, h3, rfl, rfl⟩))⟩
      · exact ⟨_, emptyS, ⟨Nat.zero_le _, Nat.zero_le _, Nat.zero_le _⟩, Or.inr (Or.inr (Or.inl ⟨h1, h2, h3, rfl, rfl⟩))⟩
    · exact ⟨_, emptyS, ⟨Nat.zero_le _, Nat.zero_le _, Nat.zero_le _⟩, Or.inr (Or.inl ⟨h1, h2, rfl, rfl⟩)⟩
  · exact ⟨_, emptyS, ⟨Nat.zero_le _, Nat.zero_le _, Nat.zero_le _⟩, Or.inl ⟨h1, rfl, rfl⟩⟩
end Go.Proofs.YtgedodcojalidaaGreat

namespace Go.Proofs.YtgedodcojalidaaGreat
open Go.RowKit

/-- Two rows are alike. -/
def Alike (m n : Nat) (F : Nat → Int) (n' : Nat) (G : Nat → Int) : Prop := n = n' ∧ ∀ p, p < n * m → F p = G p
/-- Of the first k elements all numbers are alike. -/
def Upto (N : Nat) (F G : Nat → Int) : Prop := ∀ p, p < N → F p = G p
theorem neqCell (x0 x1 x2 y0 y1 y2 : Int) (r : Bool) (hr : decide (x0 = y0 ∧ x1 = y1 ∧ x2 = y2) = r) (w : World) : (binOp .neq 59 (.agg #[.int .i64 x0, .int .i64 x1, .int .i64 x2]) (.agg #[.int .i64 y0, .int .i64 y1, .int .i64 y2])).run Tryz.prog w = .ok (.bool (!r)) w := by
  have hS : Tryz.prog.underlying 59 = some (.struct (Tryz.prog.fieldsOf 59)) := by kernel_rfl
  have hp : Tryz.prog.stoodInHeld 59 = false := by kernel_rfl
  have u2 := Tryz.underlying2
  have a2 := Tryz.isAgg2
  have z2 := Tryz.sizeOf2
  rw [run_neq_struct, show (10000 : Nat) = 9999 + 1 from rfl, run_equalIn_agg w 9999 _ _ _ hS hp]
  simp only [Program.fieldsOf, Tryz.underlying59]
  subst hr
  go_simp
  by_cases h0 : x0 = y0 <;> by_cases h1 : x1 = y1 <;> by_cases h2 : x2 = y2 <;> simp [h0, h1, h2]

theorem neqLock (x0 x1 x2 x3 x4 y0 y1 y2 y3 y4 : Int) (r : Bool) (hr : decide (x0 = y0 ∧ x1 = y1 ∧ x2 = y2 ∧ x3 = y3 ∧ x4 = y4) = r) (w : World) : (binOp .neq 62 (.agg #[.int .i64 x0, .int .i64 x1, .int .i64 x2, .int .i64 x3, .int .i64 x4]) (.agg #[.int .i64 y0, .int .i64 y1, .int .i64 y2, .int .i64 y3, .int .i64 y4])).run Tryz.prog w = .ok (.bool (!r)) w := by
  have hS : Tryz.prog.underlying 62 = some (.struct (Tryz.prog.fieldsOf 62)) := by kernel_rfl
  have hp : Tryz.prog.stoodInHeld 62 = false := by kernel_rfl
  have u2 := Tryz.underlying2
  have a2 := Tryz.isAgg2
  have z2 := Tryz.sizeOf2
  rw [run_neq_struct, show (10000 : Nat) = 9999 + 1 from rfl, run_equalIn_agg w 9999 _ _ _ hS hp]
  simp only [Program.fieldsOf, Tryz.underlying62]
  subst hr
  go_simp
  by_cases h0 : x0 = y0 <;> by_cases h1 : x1 = y1 <;> by_cases h2 : x2 = y2 <;> by_cases h3 : x3 = y3 <;> by_cases h4 : x4 = y4 <;> simp [h0, h1, h2, h3, h4]

theorem neqWrite (x0 x1 x2 x3 y0 y1 y2 y3 : Int) (r : Bool) (hr : decide (x0 = y0 ∧ x1 = y1 ∧ x2 = y2 ∧ x3 = y3) = r) (w : World) : (binOp .neq 36 (.agg #[.int .i64 x0, .int .i64 x1, .int .i64 x2, .int .i64 x3]) (.agg #[.int .i64 y0, .int .i64 y1, .int .i64 y2, .int .i64 y3])).run Tryz.prog w = .ok (.bool (!r)) w := by
  have hS : Tryz.prog.underlying 36 = some (.struct (Tryz.prog.fieldsOf 36)) := by kernel_rfl
  have hp : Tryz.prog.stoodInHeld 36 = false := by kernel_rfl
  have u2 := Tryz.underlying2
  have a2 := Tryz.isAgg2
  have z2 := Tryz.sizeOf2
  rw [run_neq_struct, show (10000 : Nat) = 9999 + 1 from rfl, run_equalIn_agg w 9999 _ _ _ hS hp]
  simp only [Program.fieldsOf, Tryz.underlying36]
  subst hr
  go_simp
  by_cases h0 : x0 = y0 <;> by_cases h1 : x1 = y1 <;> by_cases h2 : x2 = y2 <;> by_cases h3 : x3 = y3 <;> simp [h0, h1, h2, h3]

theorem uptoCell {k : Nat} {F G : Nat → Int} (hU : Hid (Upto (k * 3) F G)) (he : F (k * 3) = G (k * 3) ∧ F (k * 3 + 1) = G (k * 3 + 1) ∧ F (k * 3 + 2) = G (k * 3 + 2)) : Upto ((k + 1) * 3) F G := fun p hp => by
        rcases Nat.lt_or_ge p (k * 3) with h | h
        · exact hU.out p h
        · obtain rfl | rfl | rfl : p = k * 3 ∨ p = k * 3 + 1 ∨ p = k * 3 + 2 := by omega
          · exact he.1
          · exact he.2.1
          · exact he.2.2

set_option maxHeartbeats 1000000 in
theorem equalCell_any (va vb : Value) (Ba Bb n n' : Nat) (F G : Nat → Int) (r : Bool) (w : World) (ha : Row w Ba 3 n F va) (hb : Row w Bb 3 n' G vb) (hn : n ≤ 1048576) (hn' : n' ≤ 1048576) (hr : r = true ↔ Alike 3 n F n' G) :
    Calls Tryz.prog 27 #[va, vb] w fun e w' => e = .returned (.bool r) ∧ ∃ q, w' = w.drewN q := by
  obtain ⟨ao, ca, rfl⟩ := ha.form
  obtain ⟨bo, cb, rfl⟩ := hb.form
  have HA : Hid (Row w Ba 3 n F (.slice ao n ca)) := ha
  have HB : Hid (Row w Bb 3 n' G (.slice bo n' cb)) := hb
  have HR : Hid (r = true ↔ Alike 3 n F n' G) := hr
  clear ha hb hr
  have hgd : Tryz.prog.eqGuardType Tryz.prog.depth 59 = false := by kernel_rfl
  by_cases hne : n = n'
  case neg =>
    have E : Hid (r = false) := by
      cases r with
      | false => rfl
      | true => exact absurd (HR.out.1 rfl).1 hne
    have d : ((n : Int) != (n' : Int)) = true := bne_iff_ne.2 (by omega)
    clear hne hn hn' hgd HA HB HR
    go_enter Tryz.func27, Tryz.ntmps27
    go_wp2
    go_ret
    exact ⟨by rw [E.out]; rfl, 0, rfl⟩
  subst hne
  go_enter Tryz.func27, Tryz.ntmps27
  go_wp2
  go_loopw [13] (fun i wr => ∃ k q : Nat, k ≤ n ∧ i = .int .i64 k ∧ Hid (Upto (k * 3) F G) ∧ wr = w.drewN q) (fun i _ => n - (intOf i).toNat)
  case atStart => exact ⟨0, 0, Nat.zero_le _, rfl, fun p hp => absurd hp (by omega), rfl⟩
  case round =>
    obtain ⟨k, q, hk, rfl, hU, rfl⟩ := hrel
    by_cases hlt : k < n
    · obtain ⟨g, o, rfl, _, hg, c0, c1, c2⟩ := HA.out.at3 hlt
      obtain ⟨g', o', rfl, _, hg', d0, d1, d2⟩ := HB.out.at3 hlt
      by_cases he : F (k * 3) = G (k * 3) ∧ F (k * 3 + 1) = G (k * 3 + 1) ∧ F (k * 3 + 2) = G (k * 3 + 2)
      · have hq := neqCell (F (k * 3)) (F (k * 3 + 1)) (F (k * 3 + 2)) (G (k * 3)) (G (k * 3 + 1)) (G (k * 3 + 2)) true (decide_eq_true he)
        have hU2 : Hid (Upto ((k + 1) * 3) F G) := uptoCell hU he
        clear he hU
        go_wp2
        go_quiet (fail)
        go_wp2
        go_roundw
        case rel => exact ⟨k + 1, _, by omega, by go_num, hU2, rfl⟩
        case measure => simp [intOf]; omega
      · have hq := neqCell (F (k * 3)) (F (k * 3 + 1)) (F (k * 3 + 2)) (G (k * 3)) (G (k * 3 + 1)) (G (k * 3 + 2)) false (decide_eq_false he)
        have E : Hid (r = false) := by
          cases r with
          | false => rfl
          | true =>
            have h := (HR.out.1 rfl).2
            exact absurd ⟨h _ (by omega), h _ (by omega), h _ (by omega)⟩ he
        clear he hU
        go_wp2
        go_quiet (fail)
        go_wp2
        go_ret
        exact ⟨by rw [E.out]; rfl, _, World.drewN_drewN _ _ _⟩
    · obtain rfl : k = n := by omega
      have E : Hid (r = true) := HR.out.2 ⟨rfl, hU.out⟩
      clear hU
      go_wp2
      go_ret
      exact ⟨by rw [E.out]; rfl, _, rfl⟩

theorem uptoLock {k : Nat} {F G : Nat → Int} (hU : Hid (Upto (k * 5) F G)) (he : F (k * 5) = G (k * 5) ∧ F (k * 5 + 1) = G (k * 5 + 1) ∧ F (k * 5 + 2) = G (k * 5 + 2) ∧ F (k * 5 + 3) = G (k * 5 + 3) ∧ F (k * 5 + 4) = G (k * 5 + 4)) : Upto ((k + 1) * 5) F G := fun p hp => by
        rcases Nat.lt_or_ge p (k * 5) with h | h
        · exact hU.out p h
        · obtain rfl | rfl | rfl | rfl | rfl : p = k * 5 ∨ p = k * 5 + 1 ∨ p = k * 5 + 2 ∨ p = k * 5 + 3 ∨ p = k * 5 + 4 := by omega
          · exact he.1
          · exact he.2.1
          · exact he.2.2.1
          · exact he.2.2.2.1
          · exact he.2.2.2.2

set_option maxHeartbeats 1000000 in
theorem equalLock_any (va vb : Value) (Ba Bb n n' : Nat) (F G : Nat → Int) (r : Bool) (w : World) (ha : Row w Ba 5 n F va) (hb : Row w Bb 5 n' G vb) (hn : n ≤ 1048576) (hn' : n' ≤ 1048576) (hr : r = true ↔ Alike 5 n F n' G) :
    Calls Tryz.prog 28 #[va, vb] w fun e w' => e = .returned (.bool r) ∧ ∃ q, w' = w.drewN q := by
  obtain ⟨ao, ca, rfl⟩ := ha.form
  obtain ⟨bo, cb, rfl⟩ := hb.form
  have HA : Hid (Row w Ba 5 n F (.slice ao n ca)) := ha
  have HB : Hid (Row w Bb 5 n' G (.slice bo n' cb)) := hb
  have HR : Hid (r = true ↔ Alike 5 n F n' G) := hr
  clear ha hb hr
  have hgd : Tryz.prog.eqGuardType Tryz.prog.depth 62 = false := by kernel_rfl
  by_cases hne : n = n'
  case neg =>
    have E : Hid (r = false) := by
      cases r with
      | false => rfl
      | true => exact absurd (HR.out.1 rfl).1 hne
    have d : ((n : Int) != (n' : Int)) = true := bne_iff_ne.2 (by omega)
    clear hne hn hn' hgd HA HB HR
    go_enter Tryz.func28, Tryz.ntmps28
    go_wp2
    go_ret
    exact ⟨by rw [E.out]; rfl, 0, rfl⟩
  subst hne
  go_enter Tryz.func28, Tryz.ntmps28
  go_wp2
  go_loopw [13] (fun i wr => ∃ k q : Nat, k ≤ n ∧ i = .int .i64 k ∧ Hid (Upto (k * 5) F G) ∧ wr = w.drewN q) (fun i _ => n - (intOf i).toNat)
  case atStart => exact ⟨0, 0, Nat.zero_le _, rfl, fun p hp => absurd hp (by omega), rfl⟩
  case round =>
    obtain ⟨k, q, hk, rfl, hU, rfl⟩ := hrel
    by_cases hlt : k < n
    · obtain ⟨g, o, rfl, _, hg, c0, c1, c2, c3, c4⟩ := HA.out.at5 hlt
      obtain ⟨g', o', rfl, _, hg', d0, d1, d2, d3, d4⟩ := HB.out.at5 hlt
      by_cases he : F (k * 5) = G (k * 5) ∧ F (k * 5 + 1) = G (k * 5 + 1) ∧ F (k * 5 + 2) = G (k * 5 + 2) ∧ F (k * 5 + 3) = G (k * 5 + 3) ∧ F (k * 5 + 4) = G (k * 5 + 4)
      · have hq := neqLock (F (k * 5)) (F (k * 5 + 1)) (F (k * 5 + 2)) (F (k * 5 + 3)) (F (k * 5 + 4)) (G (k * 5)) (G (k * 5 + 1)) (G (k * 5 + 2)) (G (k * 5 + 3)) (G (k * 5 + 4)) true (decide_eq_true he)
        have hU2 : Hid (Upto ((k + 1) * 5) F G) := uptoLock hU he
        clear he hU
        go_wp2
        go_quiet (fail)
        go_wp2
        go_roundw
        case rel => exact ⟨k + 1, _, by omega, by go_num, hU2, rfl⟩
        case measure => simp [intOf]; omega
      · have hq := neqLock (F (k * 5)) (F (k * 5 + 1)) (F (k * 5 + 2)) (F (k * 5 + 3)) (F (k * 5 + 4)) (G (k * 5)) (G (k * 5 + 1)) (G (k * 5 + 2)) (G (k * 5 + 3)) (G (k * 5 + 4)) false (decide_eq_false he)
        have E : Hid (r = false) := by
          cases r with
          | false => rfl
          | true =>
            have h := (HR.out.1 rfl).2
            exact absurd ⟨h _ (by omega), h _ (by omega), h _ (by omega), h _ (by omega), h _ (by omega)⟩ he
        clear he hU
        go_wp2
        go_quiet (fail)
        go_wp2
        go_ret
        exact ⟨by rw [E.out]; rfl, _, World.drewN_drewN _ _ _⟩
    · obtain rfl : k = n := by omega
      have E : Hid (r = true) := HR.out.2 ⟨rfl, hU.out⟩
      clear hU
      go_wp2
      go_ret
      exact ⟨by rw [E.out]; rfl, _, rfl⟩

theorem uptoWrite {k : Nat} {F G : Nat → Int} (hU : Hid (Upto (k * 4) F G)) (he : F (k * 4) = G (k * 4) ∧ F (k * 4 + 1) = G (k * 4 + 1) ∧ F (k * 4 + 2) = G (k * 4 + 2) ∧ F (k * 4 + 3) = G (k * 4 + 3)) : Upto ((k + 1) * 4) F G := fun p hp => by
        rcases Nat.lt_or_ge p (k * 4) with h | h
        · exact hU.out p h
        · obtain rfl | rfl | rfl | rfl : p = k * 4 ∨ p = k * 4 + 1 ∨ p = k * 4 + 2 ∨ p = k * 4 + 3 := by omega
          · exact he.1
          · exact he.2.1
          · exact he.2.2.1
          · exact he.2.2.2

set_option maxHeartbeats 1000000 in
theorem equalWrite_any (va vb : Value) (Ba Bb n n' : Nat) (F G : Nat → Int) (r : Bool) (w : World) (ha : Row w Ba 4 n F va) (hb : Row w Bb 4 n' G vb) (hn : n ≤ 1048576) (hn' : n' ≤ 1048576) (hr : r = true ↔ Alike 4 n F n' G) :
    Calls Tryz.prog 29 #[va, vb] w fun e w' => e = .returned (.bool r) ∧ ∃ q, w' = w.drewN q := by
  obtain ⟨ao, ca, rfl⟩ := ha.form
  obtain ⟨bo, cb, rfl⟩ := hb.form
  have HA : Hid (Row w Ba 4 n F (.slice ao n ca)) := ha
  have HB : Hid (Row w Bb 4 n' G (.slice bo n' cb)) := hb
  have HR : Hid (r = true ↔ Alike 4 n F n' G) := hr
  clear ha hb hr
  have hgd : Tryz.prog.eqGuardType Tryz.prog.depth 36 = false := by kernel_rfl
  by_cases hne : n = n'
  case neg =>
    have E : Hid (r = false) := by
      cases r with
      | false => rfl
      | true => exact absurd (HR.out.1 rfl).1 hne
    have d : ((n : Int) != (n' : Int)) = true := bne_iff_ne.2 (by omega)
    clear hne hn hn' hgd HA HB HR
    go_enter Tryz.func29, Tryz.ntmps29
    go_wp2
    go_ret
    exact ⟨by rw [E.out]; rfl, 0, rfl⟩
  subst hne
  go_enter Tryz.func29, Tryz.ntmps29
  go_wp2
  go_loopw [13] (fun i wr => ∃ k q : Nat, k ≤ n ∧ i = .int .i64 k ∧ Hid (Upto (k * 4) F G) ∧ wr = w.drewN q) (fun i _ => n - (intOf i).toNat)
  case atStart => exact ⟨0, 0, Nat.zero_le _, rfl, fun p hp => absurd hp (by omega), rfl⟩
  case round =>
    obtain ⟨k, q, hk, rfl, hU, rfl⟩ := hrel
    by_cases hlt : k < n
    · obtain ⟨g, o, rfl, _, hg, c0, c1, c2, c3⟩ := HA.out.at4 hlt
      obtain ⟨g', o', rfl, _, hg', d0, d1, d2, d3⟩ := HB.out.at4 hlt
      by_cases he : F (k * 4) = G (k * 4) ∧ F (k * 4 + 1) = G (k * 4 + 1) ∧ F (k * 4 + 2) = G (k * 4 + 2) ∧ F (k * 4 + 3) = G (k * 4 + 3)
      · have hq := neqWrite (F (k * 4)) (F (k * 4 + 1)) (F (k * 4 + 2)) (F (k * 4 + 3)) (G (k * 4)) (G (k * 4 + 1)) (G (k * 4 + 2)) (G (k * 4 + 3)) true (decide_eq_true he)
        have hU2 : Hid (Upto ((k + 1) * 4) F G) := uptoWrite hU he
        clear he hU
        go_wp2
        go_quiet (fail)
        go_wp2
        go_roundw
        case rel => exact ⟨k + 1, _, by omega, by go_num, hU2, rfl⟩
        case measure => simp [intOf]; omega
      · have hq := neqWrite (F (k * 4)) (F (k * 4 + 1)) (F (k * 4 + 2)) (F (k * 4 + 3)) (G (k * 4)) (G (k * 4 + 1)) (G (k * 4 + 2)) (G (k * 4 + 3)) false (decide_eq_false he)
        have E : Hid (r = false) := by
          cases r with
          | false => rfl
          | true =>
            have h := (HR.out.1 rfl).2
            exact absurd ⟨h _ (by omega), h _ (by omega), h _ (by omega), h _ (by omega)⟩ he
        clear he hU
        go_wp2
        go_quiet (fail)
        go_wp2
        go_ret
        exact ⟨by rw [E.out]; rfl, _, World.drewN_drewN _ _ _⟩
    · obtain rfl : k = n := by omega
      have E : Hid (r = true) := HR.out.2 ⟨rfl, hU.out⟩
      clear hU
      go_wp2
      go_ret
      exact ⟨by rw [E.out]; rfl, _, rfl⟩
end Go.Proofs.YtgedodcojalidaaGreat

