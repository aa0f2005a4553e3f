/-
  Own text. The program's PartStore: a code, and a new store; both answer alike.
-/
import Derived.Test.YtjhloobjbbdmcaiKeepB
import Derived.Test.YtjhloobjbbdmcaiPartC
import Derived.Test.YtjhloobjbbdmcaiPartW
import Derived.Test.YtjhloobjbbdmcaiColsY
namespace Go.Proofs.Ytjhloobjbbdmcai
open Go.RowKit Go.Maps Go.Sort Go.Shelf Go.Lib

theorem boundsFit_yes (a b : Int) (w : World) (ha : 0 ≤ a) (ha2 : a ≤ 200) (hb : 0 ≤ b) (hb2 : b ≤ 200) :
    Calls Try.prog 23 #[.int .i64 a, .int .i64 b] w fun e w' => e = .returned (.bool true) ∧ w' = w := by
  have d2 : decide (b ≤ 200) = true := decide_eq_true hb2
  go_enter Try.func23, Try.ntmps23
  go_wp2
  go_ret
  exact ⟨rfl, rfl⟩
set_option maxHeartbeats 400000 in
theorem boundsFit_no (a b : Int) (w : World) (h : (a < 0 ∨ 200 < a) ∨ (b < 0 ∨ 200 < b)) :
    Calls Try.prog 23 #[.int .i64 a, .int .i64 b] w fun e w' => e = .returned (.bool false) ∧ w' = w := by
  by_cases ha : a < 0
  · clear h
    have d0 : decide (0 ≤ a) = false := decide_eq_false (by omega)
    go_enter Try.func23, Try.ntmps23
    go_wp2
    go_ret
    exact ⟨rfl, rfl⟩
  by_cases ha2 : 200 < a
  · clear h
    have d1 : decide (a ≤ 200) = false := decide_eq_false (by omega)
    go_enter Try.func23, Try.ntmps23
    go_wp2
    go_ret
    exact ⟨rfl, rfl⟩
  have d1 : decide (a ≤ 200) = true := decide_eq_true (by omega)
  by_cases hb : b < 0
  · clear h
    have d0 : decide (0 ≤ b) = false := decide_eq_false (by omega)
    go_enter Try.func23, Try.ntmps23
    go_wp2
    go_ret
    exact ⟨rfl, rfl⟩
  have d2 : decide (b ≤ 200) = false := decide_eq_false (by omega)
  clear h
  go_enter Try.func23, Try.ntmps23
  go_wp2
  go_ret
  exact ⟨rfl, rfl⟩
theorem selD_keepD (F : Nat → Int) (m : Nat) (hm : 0 < m) (fr to : Int) : ∀ k, selD F m (outD fr to) k = keepD F m fr (to - 1) k
  | 0 => rfl
  | k + 1 => by
    have ih := selD_keepD F m hm fr to k
    have hg : (struD F m k).getD 0 0 = F (k * m) := struD_get F m k 0 hm
    rw [keepD]
    by_cases h : fr ≤ F (k * m) ∧ F (k * m) ≤ to - 1
    · rw [selD_kept (by unfold outD; rw [hg]; exact decide_eq_false (by omega)), if_pos h, ih]
    · rw [selD_gone (by unfold outD; rw [hg]; exact decide_eq_true (by omega)), if_neg h, ih, List.append_nil]
theorem part_row (F : Nat → Int) (m : Nat) (hm : 0 < m) (fr to : Int) (k : Nat) : (selD F m (outD fr to) k).length = keepN F m fr (to - 1) k ∧ (fun p => (selD F m (outD fr to) k).flatten.getD p 0) = keepF F m fr (to - 1) k := by
  rw [selD_keepD F m hm fr to k]
  refine ⟨keepD_len F m fr (to - 1) k, ?_⟩
  unfold keepF
  rw [keepD_flat]
/-- A list of structs whose keys rise, which has just what a map has, is a map's row. -/
theorem mapRow_list {m : Int → Int → Option Int} {L : List (List Int)} (hl : ∀ t ∈ L, t.length = 3) (hu : L.Pairwise (Lt2 (fun x => x.getD 0 0) (fun x => x.getD 1 0))) (hw : ∀ x y v, [x, y, v] ∈ L → (Wf x ∧ Wf y) ∧ m x y = some v) (ha : ∀ x y v, Wf x → Wf y → m x y = some v → [x, y, v] ∈ L) : MapRow m L.length (fun p => L.flatten.getD p 0) := by
  have three : ∀ t ∈ L, t = [t.getD 0 0, t.getD 1 0, t.getD 2 0] := fun t ht => by
    have h3 := hl t ht
    match t, h3 with
    | [a, b, c], _ => rfl
  have get : ∀ i (hi : i < L.length) q, q < 3 → L.flatten.getD (i * 3 + q) 0 = (L[i]'hi).getD q 0 := fun i hi q hq => by
    rw [flat_get (m := 3) L (i * 3 + q) hl (by omega)]
    have d1 : (i * 3 + q) / 3 = i := by omega
    have d2 : (i * 3 + q) % 3 = q := by omega
    rw [d1, d2]
    simp [hi]
  have mem : ∀ i (hi : i < L.length), [L.flatten.getD (i * 3) 0, L.flatten.getD (i * 3 + 1) 0, L.flatten.getD (i * 3 + 2) 0] ∈ L := fun i hi => by
    have g0 := get i hi 0 (by omega)
    rw [Nat.add_zero] at g0
    rw [g0, get i hi 1 (by omega), get i hi 2 (by omega), ← three _ (List.getElem_mem hi)]
    exact List.getElem_mem hi
  refine ⟨fun j hj i hij => ?_, fun i hi => (hw _ _ _ (mem i hi)).1, fun i hi => (hw _ _ _ (mem i hi)).2, fun x y v hx hy hm => ?_⟩
  · have h := (List.pairwise_iff_getElem.1 hu) i j (by omega) hj hij
    have g0 := get i (by omega) 0 (by omega)
    have g1 := get j hj 0 (by omega)
    rw [Nat.add_zero] at g0 g1
    show pairLt (L.flatten.getD (i * 3) 0) (L.flatten.getD (i * 3 + 1) 0) (L.flatten.getD (j * 3) 0) (L.flatten.getD (j * 3 + 1) 0)
    rw [g0, g1, get i (by omega) 1 (by omega), get j hj 1 (by omega)]
    exact h
  · obtain ⟨i, hi, e⟩ := List.mem_iff_getElem.1 (ha x y v hx hy hm)
    have g0 := get i hi 0 (by omega)
    rw [Nat.add_zero] at g0
    refine ⟨i, hi, ?_, ?_, ?_⟩
    · show L.flatten.getD (i * 3) 0 = x
      rw [g0, e]; rfl
    · show L.flatten.getD (i * 3 + 1) 0 = y
      rw [get i hi 1 (by omega), e]; rfl
    · show L.flatten.getD (i * 3 + 2) 0 = v
      rw [get i hi 2 (by omega), e]; rfl
theorem puts_some {p q v : Nat → Int} {x y u : Int} : ∀ {n : Nat}, puts p q v n x y = some u → ∃ i, i < n ∧ p i = x ∧ q i = y ∧ v i = u
  | 0, h => by simp [puts] at h
  | n + 1, h => by
    unfold puts putM at h
    by_cases e : x = p n ∧ y = q n
    · rw [if_pos e] at h
      simp at h
      exact ⟨n, by omega, e.1.symm, e.2.symm, h⟩
    · rw [if_neg e] at h
      obtain ⟨i, hi, r⟩ := puts_some h
      exact ⟨i, by omega, r⟩
theorem cellM_some {S : Sto} {x y u : Int} (h : cellM S S.nc x y = some u) : ∃ i, i < S.nc ∧ S.c (i * 3) = x ∧ S.c (i * 3 + 1) = y ∧ S.c (i * 3 + 2) = u := puts_some h
theorem keepD_in {F : Nat → Int} {m : Nat} {a b : Int} {i : Nat} (h : a ≤ F (i * m) ∧ F (i * m) ≤ b) : ∀ {k : Nat}, i < k → struD F m i ∈ keepD F m a b k
  | 0, hi => by omega
  | k + 1, hi => by
    rw [keepD]
    by_cases e : i = k
    · subst e; rw [if_pos h]; simp
    · exact List.mem_append.2 (Or.inl (keepD_in h (by omega)))
theorem keepD_out {F : Nat → Int} {m : Nat} {a b : Int} {x : List Int} : ∀ {k : Nat}, x ∈ keepD F m a b k → ∃ i, i < k ∧ x = struD F m i ∧ a ≤ F (i * m) ∧ F (i * m) ≤ b
  | 0, h => by simp [keepD] at h
  | k + 1, h => by
    rw [keepD] at h
    rcases List.mem_append.1 h with h | h
    · obtain ⟨i, hi, e, r⟩ := keepD_out h
      exact ⟨i, by omega, e, r⟩
    · split at h
      · simp at h
        exact ⟨k, by omega, h, by assumption⟩
      · simp at h
theorem part_map {S : Sto} (hz : scan (cellF S.c) S.nc = 0) (fr to : Int) : MapRow (inM (cellM S S.nc) fr to) (keepN S.c 3 fr (to - 1) S.nc) (keepF S.c 3 fr (to - 1) S.nc) := by
  have h := mapRow_list (m := inM (cellM S S.nc) fr to) (L := keepD S.c 3 fr (to - 1) S.nc) keepD_all (keepD_rise (by omega) (n := S.nc) (cells_rise hz) S.nc (Nat.le_refl _)) (fun x y v hm => ?_) (fun x y v hx hy hm => ?_)
  · rw [keepD_len] at h
    unfold keepF
    rw [← keepD_flat]
    exact h
  · obtain ⟨i, hi, e, h1⟩ := keepD_out hm
    rw [struD_three] at e
    simp at e
    obtain ⟨rfl, rfl, rfl⟩ := e
    have hc := cellF_zero (scan_zero hz i hi)
    have hk := faultOf_zero hc.1
    refine ⟨⟨wf_small hk.1 (by omega), wf_small (by omega) hc.2.2.1⟩, ?_⟩
    unfold inM
    rw [if_neg (by omega)]
    exact cellM_at hz hi ⟨rfl, rfl⟩
  · unfold inM at hm
    by_cases ho : x < fr ∨ to ≤ x
    · rw [if_pos ho] at hm; cases hm
    · rw [if_neg ho] at hm
      obtain ⟨i, hi, rfl, rfl, rfl⟩ := cellM_some hm
      rw [← struD_three]
      exact keepD_in (by omega) hi
set_option maxRecDepth 100000 in
set_option maxHeartbeats 8000000 in
theorem implPartStore_is (S : Sto) (v0 v1 v2 : Value) (fr to c : Int) (R : Sto) (B : Nat) (w : World) (h : St w B S v0 v1 v2) (hA : PartAns S fr to c R) :
    Calls Try.prog 7 #[.agg #[v0, v1, v2], .int .i64 fr, .int .i64 to] w (ResSto w c R) := by
  obtain ⟨a0, c0, a1, c1, a2, c2, rfl, rfl, rfl⟩ := h.form
  have HE : Hid (CallSto w B S (.slice a0 S.nc c0) (.slice a1 S.nl c1) (.slice a2 S.nw c2) ((w.alloc (.cells #[.slice a0 S.nc c0, .slice a1 S.nl c1, .slice a2 S.nw c2] 32)).alloc (.cells #[.int .i64 0, .slice none 0 0, .slice none 0 0, .slice none 0 0] 34))) := CallSto.new h _ _
  clear h
  unfold ResSto
  rcases hA with ⟨hz, rfl, rfl⟩ | ⟨hz, hf, rfl, rfl⟩ | ⟨hz, hf, rfl, rfl⟩
  · obtain ⟨f, hf⟩ : ∃ f, storeF S = f := ⟨_, rfl⟩
    have HF : Hid (storeF S = f) := hf
    have hfn : (f == 0) = false := beq_eq_false_iff_ne.2 (by rw [← hf]; exact hz)
    rw [hf]
    clear hz hf
    go_enter Try.func7, Try.ntmps7
    go_wp2_with fail
    refine (implFault_any S _ _ _ B _ HE.out.2.2.1).mono ?_
    rw [HF.out]
    rintro e w1 ⟨rfl, q1⟩
    have HE : Hid (CallSto w B S (.slice a0 S.nc c0) (.slice a1 S.nl c1) (.slice a2 S.nw c2) w1) := HE.out.later q1
    obtain ⟨⟨⟨p0, p1, p2⟩, _⟩, ⟨⟨r0, r1, r2, r3⟩, f0, f1, f2, f3⟩, _⟩ := HE.out
    clear q1
    go_wp2
    exact bodyPost_ret (v := .agg #[.int .i64 f, .slice none 0 0, .slice none 0 0, .slice none 0 0]) (by simp [results, Try.results7, go_sem, r0, r1, r2, r3]) rfl ⟨none, 0, none, 0, none, 0, rfl, empty_sto _ _, (((HE.out.2.2.2.setCell (Nat.le_succ _) _).setCell (Nat.le_succ _) _).setCell (Nat.le_succ _) _).setCell (Nat.le_succ _) _⟩
  · have HA : Hid (storeF S = 0) := hz
    have HN : Hid ((fr < 0 ∨ 200 < fr) ∨ (to < 0 ∨ 200 < to)) := by unfold partFits at hf; unfold Hid; omega
    clear hf hz
    go_enter Try.func7, Try.ntmps7
    go_wp2_with fail
    refine (implFault_any S _ _ _ B _ HE.out.2.2.1).mono ?_
    rw [HA.out]
    rintro e w1 ⟨rfl, q1⟩
    have HE : Hid (CallSto w B S (.slice a0 S.nc c0) (.slice a1 S.nl c1) (.slice a2 S.nw c2) w1) := HE.out.later q1
    obtain ⟨⟨⟨p0, p1, p2⟩, _⟩, ⟨⟨r0, r1, r2, r3⟩, f0, f1, f2, f3⟩, _⟩ := HE.out
    clear q1
    go_wp2_with fail
    refine (boundsFit_no fr to _ HN.out).mono ?_
    rintro e w2 ⟨rfl, rfl⟩
    go_wp2
    exact bodyPost_ret (v := .agg #[.int .i64 3, .slice none 0 0, .slice none 0 0, .slice none 0 0]) (by simp [results, Try.results7, go_sem, r0, r1, r2, r3]) rfl ⟨none, 0, none, 0, none, 0, rfl, empty_sto _ _, (((HE.out.2.2.2.setCell (Nat.le_succ _) _).setCell (Nat.le_succ _) _).setCell (Nat.le_succ _) _).setCell (Nat.le_succ _) _⟩
  · have HA : Hid (storeF S = 0) := hz
    have Z := storeF_zero hz
    have HZ : Hid (scan (cellF S.c) S.nc = 0 ∧ (S.nc ≤ 200 ∧ S.nl ≤ 200 ∧ S.nw ≤ 200)) := ⟨Z.2.1, Z.1⟩
    have HB : Hid (((0 : Int) ≤ fr ∧ fr ≤ 200) ∧ ((0 : Int) ≤ to ∧ to ≤ 200)) := hf
    have HP : Hid (∀ (b g : Nat) (x : World) (Bx : Nat) (y1 y2 : Value), Cols x Bx b S.nc (inM (cellM S S.nc) fr to) (selD S.l 5 (outD fr to) S.nl).length (fun p => (selD S.l 5 (outD fr to) S.nl).flatten.getD p 0) (selD S.k 4 (outD fr to) S.nw).length (fun p => (selD S.k 4 (outD fr to) S.nw).flatten.getD p 0) g y1 y2 → Calls Try.prog 26 #[.pointer (some ⟨b, 0, none⟩)] x (NewSto x (partS S fr to))) := fun b g x Bx y1 y2 hx => by
      have hl := selD_le S.l 5 (outD fr to) S.nl
      have hk := selD_le S.k 4 (outD fr to) S.nw
      have hs := store_is Bx b S.nc _ _ _ _ _ g y1 y2 x hx (by omega) (by omega) (by omega) _ _ (part_map Z.2.1 fr to)
      rw [(part_row S.l 5 (by omega) fr to S.nl).1, (part_row S.l 5 (by omega) fr to S.nl).2, (part_row S.k 4 (by omega) fr to S.nw).1, (part_row S.k 4 (by omega) fr to S.nw).2] at hs
      exact hs
    generalize partS S fr to = R at HP ⊢
    clear hf hz Z
    go_enter Try.func7, Try.ntmps7
    go_wp2_with fail
    refine (implFault_any S _ _ _ B _ HE.out.2.2.1).mono ?_
    rw [HA.out]
    rintro e w1 ⟨rfl, q1⟩
    have HE : Hid (CallSto w B S (.slice a0 S.nc c0) (.slice a1 S.nl c1) (.slice a2 S.nw c2) w1) := HE.out.later q1
    obtain ⟨⟨⟨p0, p1, p2⟩, _⟩, ⟨⟨r0, r1, r2, r3⟩, f0, f1, f2, f3⟩, _⟩ := HE.out
    clear q1
    go_wp2_with fail
    refine (boundsFit_yes fr to _ HB.out.1.1 HB.out.1.2 HB.out.2.1 HB.out.2.2).mono ?_
    rintro e w1' ⟨rfl, rfl⟩
    go_wp2_with fail
    refine (columnsOf_apart S B _ _ _ _ HE.out.2.2.1 HZ.out.2.1 HZ.out.2.2.1 HZ.out.2.2.2 HZ.out.1).mono ?_
    rintro e w2 ⟨b, g, u1, u2, rfl, hC, hap, q1⟩
    clear p0 p1 p2 r0 r1 r2 r3 f0 f1 f2 f3
    have HC : Hid (Cols w2 w1'.heap.size b S.nc (cellM S S.nc) S.nl S.l S.nw S.k g u1 u2 ∧ ApartC b g u1 u2) := ⟨hC, hap⟩
    have zw : Hid (w.heap.size + 2 ≤ w1'.heap.size) := HE.out.2.1.lt
    have HE : Hid (CallSto w B S (.slice a0 S.nc c0) (.slice a1 S.nl c1) (.slice a2 S.nw c2) w2) := HE.out.later q1
    clear q1 hC hap
    go_wp2_with fail
    refine (keepKeys_is _ b _ _ _ _ _ _ g u1 u2 fr to _ HC.out.1 HC.out.2 HZ.out.2.2.1 HZ.out.2.2.2).mono ?_
    rintro e w3 ⟨rfl, ⟨y1, y2, hC3⟩, hb3⟩
    have HC3 : Hid (Cols w3 w1'.heap.size b S.nc (inM (cellM S S.nc) fr to) (selD S.l 5 (outD fr to) S.nl).length (fun p => (selD S.l 5 (outD fr to) S.nl).flatten.getD p 0) (selD S.k 4 (outD fr to) S.nw).length (fun p => (selD S.k 4 (outD fr to) S.nw).flatten.getD p 0) g y1 y2) := hC3
    have HR3 : Hid (Blk4 w3 (w.heap.size + 1) (.int .i64 0) (.slice none 0 0) (.slice none 0 0) (.slice none 0 0) ∧ Below w.heap.size w w3) := ⟨HE.out.2.1.kept (hb3.block (w.heap.size + 1) (by have := zw.out; omega)), HE.out.2.2.2.trans (hb3.mono (by have := zw.out; omega))⟩
    have z3 : Hid (w.heap.size + 2 ≤ w3.heap.size) := HR3.out.1.lt
    clear hC3 hb3 HE HC
    go_wp2_with fail
    refine (HP.out b g w3 _ y1 y2 HC3.out).mono ?_
    rintro e w4 ⟨d0, e0, d1, e1, d2, e2, rfl, ⟨s3, f3', a3⟩, q4⟩
    have S3 : Hid ((St w4 (w.heap.size + 2) R (.slice d0 R.nc e0) (.slice d1 R.nl e1) (.slice d2 R.nw e2) ∧ FreeS w4 R (.slice d0 R.nc e0) (.slice d1 R.nl e1) (.slice d2 R.nw e2)) ∧ ApartD R (.slice d0 R.nc e0) (.slice d1 R.nl e1) (.slice d2 R.nw e2)) := ⟨⟨s3.mono z3.out, f3'⟩, a3⟩
    have HBW : Hid (Below w.heap.size w w4) := HR3.out.2.trans (q4.mono HR3.out.2.size)
    obtain ⟨⟨r0, r1, r2, r3⟩, f0, f1, f2, f3⟩ := HR3.out.1.later q4
    clear s3 f3' a3 q4 HC3
    have hlo : (w.heap.size + 1 : Nat) < w.heap.size + 2 := Nat.lt_succ_self _
    go_wp2
    exact bodyPost_ret (v := .agg #[.int .i64 0, .slice d0 R.nc e0, .slice d1 R.nl e1, .slice d2 R.nw e2]) (by simp [results, Try.results7, go_sem, r0, r1, r2, r3]) rfl ⟨d0, e0, d1, e1, d2, e2, rfl, ⟨((((S3.out.1.1.far hlo _).far hlo _).far hlo _).far hlo _).mono (by omega), (((S3.out.1.2.far _ _).far _ _).far _ _).far _ _, S3.out.2⟩, (((HBW.out.setCell (Nat.le_succ _) _).setCell (Nat.le_succ _) _).setCell (Nat.le_succ _) _).setCell (Nat.le_succ _) _⟩
theorem partStore_ans (S : Sto) (fr to : Int) : ∃ c R, (R.nc ≤ 1048576 ∧ R.nl ≤ 1048576 ∧ R.nw ≤ 1048576) ∧
      (∀ y0 y1 y2 x, St x 0 S y0 y1 y2 → Calls Try.prog 5 #[.agg #[y0, y1, y2], .int .i64 fr, .int .i64 to] x (ResSto x c R)) ∧
      (∀ y0 y1 y2 x, St x 0 S y0 y1 y2 → Calls Try.prog 7 #[.agg #[y0, y1, y2], .int .i64 fr, .int .i64 to] x (ResSto x c R)) := by
  obtain ⟨c, R, hb, hA⟩ := PartAns.get S fr to
  exact ⟨c, R, hb, fun y0 y1 y2 x hx => specPartStore_is S y0 y1 y2 fr to c R 0 x hx hA, fun y0 y1 y2 x hx => implPartStore_is S y0 y1 y2 fr to c R 0 x hx hA⟩
theorem partStore_law (S : Sto) (v0 v1 v2 : Value) (fr to : Int) (w : World) (h : St w 0 S v0 v1 v2) (hc : S.nc ≤ 9223372036854775807) (hl : S.nl ≤ 9223372036854775807) (hk : S.nw ≤ 9223372036854775807) (_ : (∀ p, (Lit.int .i64 (S.c p)).wf = true) ∧ (∀ p, (Lit.int .i64 (S.l p)).wf = true) ∧ ∀ p, (Lit.int .i64 (S.k p)).wf = true) (_ : (Lit.int .i64 fr).wf = true) (_ : (Lit.int .i64 to).wf = true) :
    Calls Try.prog 3 #[.agg #[v0, v1, v2], .int .i64 fr, .int .i64 to] w fun e w' => e = .returned (.bool true) ∧ Below w.heap.size w w' :=
  exactPartStore_walk S v0 v1 v2 fr to w h hc hl hk (fun _ _ _ => partStore_ans S fr to)
end Go.Proofs.Ytjhloobjbbdmcai
