/-
  Own text, merged of DelS, SetA, SetB.
-/
import Derived.Test.YtnkdphdpecgmiaaGreatDoorDelB
import Derived.Test.YtnkdphdpecgmiaaGreatDoorPartA
import Derived.Test.YtnkdphdpecgmiaaGreatDoorInsV
import Derived.Test.YtnkdphdpecgmiaaGreatDoorBinW
import Derived.Test.YtnkdphdpecgmiaaGreatDoorStoA
import Derived.Test.YtnkdphdpecgmiaaGreatDoorStorA
namespace Go.Proofs.YtnkdphdpecgmiaaGreatDoor
section
open Go.RowKit Go.Sort Go.Shelf Go.Lib
-- Own text. The closure of settle: whether a lock is the one that a write ends; slices.DeleteFunc with it.
set_option maxRecDepth 100000 in
theorem settled_is (n0 n1 n2 n3 n4 x0 x1 x2 x3 : Int) (bc : Nat) (w : World) (h : Blk4 w bc (.int .i64 x0) (.int .i64 x1) (.int .i64 x2) (.int .i64 x3)) :
    Calls Tryz.prog 112 #[.agg #[.int .i64 n0, .int .i64 n1, .int .i64 n2, .int .i64 n3, .int .i64 n4], .pointer (some ⟨bc, 0, none⟩)] w fun e w' => e = .returned (.bool (n0 == x0 && n1 == x2)) ∧ w' = w.alloc (.cells #[.int .i64 n0, .int .i64 n1, .int .i64 n2, .int .i64 n3, .int .i64 n4] 57) := by
  have hb := h.alloc (.cells #[.int .i64 n0, .int .i64 n1, .int .i64 n2, .int .i64 n3, .int .i64 n4] 57)
  have q0 := hb.1.1
  have q2 := hb.1.2.2.1
  have l0 := h.lt
  by_cases ha : n0 = x0
  · by_cases hc : n1 = x2
    · have hd : (n0 == x0 && n1 == x2) = true := by simp [ha, hc]
      rw [hd]
      clear hd h hb
      subst ha
      subst hc
      go_enter Tryz.func112, Tryz.ntmps112
      go_wp2
      go_ret
      exact ⟨rfl, rfl⟩
    · have hd : (n0 == x0 && n1 == x2) = false := by simp [hc]
      rw [hd]
      clear hd h hb
      subst ha
      have hbf : (n1 == x2) = false := by simp [hc]
      go_enter Tryz.func112, Tryz.ntmps112
      go_wp2
      go_ret
      exact ⟨by rw [← hbf]; rfl, rfl⟩
  · have hd : (n0 == x0 && n1 == x2) = false := by simp [ha]
    rw [hd]
    clear hd h hb
    go_enter Tryz.func112, Tryz.ntmps112
    go_wp2
    go_ret
    exact ⟨rfl, rfl⟩
set_option maxRecDepth 100000 in
set_option maxHeartbeats 4000000 in
theorem indexSettled_is (bc : Nat) (E : World → Prop) (D : List Int → Bool) (hdel : ∀ (x : World) (n0 n1 n2 n3 n4 : Int), E x → Calls Tryz.prog 112 #[.agg #[.int .i64 n0, .int .i64 n1, .int .i64 n2, .int .i64 n3, .int .i64 n4], .pointer (some ⟨bc, 0, none⟩)] x fun e x' => e = .returned (.bool (D [n0, n1, n2, n3, n4])) ∧ Below x.heap.size x x') (hE0 : ∀ x x', E x → Below x.heap.size x x' → E x') (B n : Nat) (F : Nat → Int) (v : Value) (w : World) (h : Row w B 5 n F v) (hn : n ≤ 1048576) (hw : E w) :
    Calls Tryz.prog 126 #[v, .func (.func 112) #[] #[.pointer (some ⟨bc, 0, none⟩)]] w fun e w' => ∃ r : Int, e = .returned (.int .i64 r) ∧ FirstAt (fun i => D (struD F 5 i) = true) n r ∧ Below w.heap.size w w' := by
  obtain ⟨ao, cp, rfl⟩ := h.form
  have H : Hid (Row w B 5 n F (.slice ao n cp)) := h
  have HC : Hid (∀ (x : World) (n0 n1 n2 n3 n4 : Int), E x → Calls Tryz.prog 112 #[.agg #[.int .i64 n0, .int .i64 n1, .int .i64 n2, .int .i64 n3, .int .i64 n4], .pointer (some ⟨bc, 0, none⟩)] x fun e x' => e = .returned (.bool (D [n0, n1, n2, n3, n4])) ∧ Below x.heap.size x x') := hdel
  have HE : Hid (∀ x x', E x → Below x.heap.size x x' → E x') := hE0
  have HW : Hid (E w) := hw
  clear h hdel hE0 hw
  go_enter Tryz.func126, Tryz.ntmps126
  go_wp2
  go_loopw [8] (fun i wr => ∃ k : Nat, k ≤ n ∧ i = .int .i64 k ∧ Hid (∀ j, j < k → D (struD F 5 j) = false) ∧ Hid (Below w.heap.size w wr)) (fun i _ => n - (intOf i).toNat)
  case atStart => exact ⟨0, Nat.zero_le _, rfl, fun j hj => absurd hj (Nat.not_lt_zero j), Below.refl _ _⟩
  case round =>
    obtain ⟨k, hk, rfl, HS, HB⟩ := hrel
    by_cases hlt : k < n
    case neg =>
      obtain rfl : n = k := by omega
      go_wp2
      go_ret
      exact ⟨-1, rfl, Or.inl ⟨rfl, fun i hi e => Bool.false_ne_true ((HS.out i hi).symm.trans e)⟩, HB.out⟩
    obtain ⟨g, o, rfl, _, hg, x0, x1, x2, x3, x4⟩ := (H.out.later HB.out).at5 hlt
    obtain ⟨n0, N0⟩ : ∃ x, F (k * 5) = x := ⟨_, rfl⟩
    rw [N0] at x0
    obtain ⟨n1, N1⟩ : ∃ x, F (k * 5 + 1) = x := ⟨_, rfl⟩
    rw [N1] at x1
    obtain ⟨n2, N2⟩ : ∃ x, F (k * 5 + 2) = x := ⟨_, rfl⟩
    rw [N2] at x2
    obtain ⟨n3, N3⟩ : ∃ x, F (k * 5 + 3) = x := ⟨_, rfl⟩
    rw [N3] at x3
    obtain ⟨n4, N4⟩ : ∃ x, F (k * 5 + 4) = x := ⟨_, rfl⟩
    rw [N4] at x4
    have HD : Hid (struD F 5 k = [n0, n1, n2, n3, n4]) := by
      unfold Hid
      rw [← N0, ← N1, ← N2, ← N3, ← N4]
      rfl
    obtain ⟨r, hr⟩ : ∃ r, D [n0, n1, n2, n3, n4] = r := ⟨_, rfl⟩
    have HR : Hid (D [n0, n1, n2, n3, n4] = r) := hr
    clear N0 N1 N2 N3 N4 hr
    cases r with
    | true =>
      go_wp2_with fail
      refine (HC.out _ n0 n1 n2 n3 n4 (HE.out _ _ HW.out HB.out)).mono ?_
      rw [HR.out]
      rintro e w1 ⟨rfl, q1⟩
      have HB1 : Hid (Below w.heap.size w w1) := HB.out.trans (q1.mono HB.out.size)
      clear q1
      go_wp2
      go_ret
      exact ⟨k, rfl, Or.inr ⟨k, hlt, rfl, (congrArg D HD.out).trans HR.out, fun j hj e => Bool.false_ne_true ((HS.out j hj).symm.trans e)⟩, HB1.out⟩
    | false =>
      have HS1 : Hid (∀ j, j < k + 1 → D (struD F 5 j) = false) := fun j hj => by
        rcases Nat.lt_or_ge j k with e | e
        · exact HS.out j e
        · obtain rfl : j = k := by omega
          rw [HD.out]; exact HR.out
      go_wp2_with fail
      refine (HC.out _ n0 n1 n2 n3 n4 (HE.out _ _ HW.out HB.out)).mono ?_
      rw [HR.out]
      rintro e w1 ⟨rfl, q1⟩
      have HB1 : Hid (Below w.heap.size w w1) := HB.out.trans (q1.mono HB.out.size)
      clear q1 HS HD HR HB
      go_wp2
      go_roundw
      case rel => exact ⟨k + 1, by omega, by go_num, HS1, HB1⟩
      case measure => simp [intOf]; omega
theorem zeroSettled (w : World) : (zeroValue 57).run Tryz.prog w = .ok (.agg #[.int .i64 0, .int .i64 0, .int .i64 0, .int .i64 0, .int .i64 0]) w := by kernel_rfl
set_option maxRecDepth 100000 in
set_option maxHeartbeats 8000000 in
theorem deleteSettled_is (bc : Nat) (E : World → Prop) (D : List Int → Bool) (hdel : ∀ (x : World) (n0 n1 n2 n3 n4 : Int), E x → Calls Tryz.prog 112 #[.agg #[.int .i64 n0, .int .i64 n1, .int .i64 n2, .int .i64 n3, .int .i64 n4], .pointer (some ⟨bc, 0, none⟩)] x fun e x' => e = .returned (.bool (D [n0, n1, n2, n3, n4])) ∧ Below x.heap.size x x') (hE0 : ∀ x x', E x → Below x.heap.size x x' → E x') (B n : Nat) (F : Nat → Int) (v : Value) (w : World) (h : Own w B 57 5 n F v) (hn : n ≤ 200) (hw : E w) (hE1 : ∀ x x' q, v.ownBlock = some q → E x → x.grownBy x' (some q) → E x') :
    Calls Tryz.prog 111 #[v, .func (.func 112) #[] #[.pointer (some ⟨bc, 0, none⟩)]] w fun e w' => ∃ v', e = .returned v' ∧ (Own w' B 57 5 (selD F 5 D n).length (fun p => (selD F 5 D n).flatten.getD p 0) v' ∧ v'.ownBlock = v.ownBlock) ∧ w.grownBy w' v.ownBlock ∧ E w' := by
  have HX := indexSettled_is bc E D hdel hE0 B n F v w h.row.1 (by omega) hw
  have HC : Hid (∀ (x : World) (n0 n1 n2 n3 n4 : Int), E x → Calls Tryz.prog 112 #[.agg #[.int .i64 n0, .int .i64 n1, .int .i64 n2, .int .i64 n3, .int .i64 n4], .pointer (some ⟨bc, 0, none⟩)] x fun e x' => e = .returned (.bool (D [n0, n1, n2, n3, n4])) ∧ Below x.heap.size x x') := hdel
  have HE0 : Hid (∀ x x', E x → Below x.heap.size x x' → E x') := hE0
  have HW : Hid (E w) := hw
  have HO : Hid (Own w B 57 5 n F v) := h
  obtain ⟨r, hr⟩ := FirstAt.get (fun i => D (struD F 5 i) = true) n
  have one : ∀ r', FirstAt (fun i => D (struD F 5 i) = true) n r' → r' = r := fun r' h' => by
    rcases h' with ⟨rfl, a⟩ | ⟨i, h1, rfl, h2, h3⟩
    · rcases hr with ⟨rfl, _⟩ | ⟨j, g1, rfl, g2, g3⟩
      · rfl
      · exact absurd g2 (a j g1)
    · rcases hr with ⟨rfl, a⟩ | ⟨j, g1, rfl, g2, g3⟩
      · exact absurd h2 (a i h1)
      · rcases Nat.lt_trichotomy i j with q | q | q
        · exact absurd h2 (g3 i q)
        · rw [q]
        · exact absurd g2 (h3 j q)
  have HXr : Hid (Calls Tryz.prog 126 #[v, .func (.func 112) #[] #[.pointer (some ⟨bc, 0, none⟩)]] w fun e w' => e = .returned (.int .i64 r) ∧ Below w.heap.size w w') := HX.mono fun e w' ⟨r', he, hf, hb⟩ => ⟨by rw [he, one r' hf], hb⟩
  clear HX one hdel hE0 hw
  rcases hr with ⟨rfl, hno⟩ | ⟨i0, hi0, rfl, hp0, hf0⟩
  · have HS : Hid (Own w B 57 5 (selD F 5 D n).length (fun p => (selD F 5 D n).flatten.getD p 0) v) := by
      have hs := selD_same (F := F) (m := 5) (D := D) (k := n) (fun i hi => by cases e : D (struD F 5 i) with | false => rfl | true => exact absurd e (hno i hi))
      unfold Hid
      rw [hs.1]
      exact h.congr (fun p hp => (hs.2 p hp).symm)
    obtain ⟨ao, cp, rfl⟩ := h.form
    clear h hno hE1 HO
    go_enter Tryz.func111, Tryz.ntmps111
    go_wp2_with fail
    refine HXr.out.mono ?_
    rintro e w1 ⟨rfl, q1⟩
    have Q : Hid (((Own w1 B 57 5 (selD F 5 D n).length (fun p => (selD F 5 D n).flatten.getD p 0) (.slice ao n cp)) ∧ w.grownBy w1 (Value.slice ao n cp).ownBlock) ∧ E w1) := ⟨⟨HS.out.later q1, ⟨q1.os, q1.tape, q1.output, q1.size, fun i hi _ => q1.block i hi⟩⟩, HE0.out _ _ HW.out q1⟩
    clear q1
    go_wp2
    go_ret
    exact ⟨_, rfl, ⟨Q.out.1.1, rfl⟩, Q.out.1.2, Q.out.2⟩
  · rcases h.parts with ⟨_, e⟩ | ⟨g, cap, rfl, hB, hnc, hcm, hbk, hcell⟩
    · omega
    have HB : Hid (B ≤ g) := hB
    have HE1 : Hid (∀ x x', E x → x.grownBy x' (some g) → E x') := fun x x' => hE1 x x' g rfl
    have hsame := selD_same (F := F) (m := 5) (D := D) (k := i0) (fun i hi => by cases e : D (struD F 5 i) with | false => rfl | true => exact absurd e (hf0 i hi))
    have hgone := selD_gone (F := F) (m := 5) (D := D) (k := i0) hp0
    have HM0 : Hid (Mid w g 57 5 n cap F (selD F 5 D (i0 + 1)) (i0 + 1)) := by
      unfold Hid
      rw [hgone]
      refine ⟨hbk, fun p hp => ?_, fun p _ h2 => hcell p h2⟩
      rw [hsame.1] at hp
      have hlt : i0 * 5 ≤ n * 5 := Nat.mul_le_mul_right 5 (by omega)
      rw [hsame.2 p hp]
      exact hcell p (by omega)
    have hlen0 : (selD F 5 D (i0 + 1)).length = i0 := by rw [hgone]; exact hsame.1
    have hmax : cap ≤ 9223372036854775807 := by unfold maxLen at hcm; omega
    have hcmH : Hid (cap ≤ maxLen) := hcm
    clear h hp0 hf0 hE1 hB hbk hcell hsame hgone HO hcm
    go_enter Tryz.func111, Tryz.ntmps111
    go_wp2_with fail
    refine HXr.out.mono ?_
    rintro e w1 ⟨rfl, q1⟩
    have HM1 : Hid (Mid w1 g 57 5 n cap F (selD F 5 D (i0 + 1)) (i0 + 1)) := HM0.out.later q1
    have HG1 : Hid (w.grownBy w1 (some g)) := ⟨q1.os, q1.tape, q1.output, q1.size, fun i hi _ => q1.block i hi⟩
    have HW1 : Hid (E w1) := HE0.out _ _ HW.out q1
    have d0 : (((i0 : Nat) : Int) == -1) = false := beq_eq_false_iff_ne.2 (by omega)
    have ew : IntKind.i64.wrap ((i0 : Int) + 1) = (i0 : Int) + 1 := by
      simp [IntKind.wrap, IntKind.bits, IntKind.signed]
      omega
    clear q1 HM0 HW
    go_wp2
    go_loopw [5, 6] (fun i j wr => ∃ k : Nat, i0 + 1 ≤ k ∧ k ≤ n ∧ j = .int .i64 k ∧ i = .int .i64 ((selD F 5 D k).length : Nat) ∧ Hid ((Mid wr g 57 5 n cap F (selD F 5 D k) k ∧ (selD F 5 D k).length < k) ∧ w.grownBy wr (some g) ∧ E wr)) (fun _ j _ => n - (intOf j).toNat)
    case atStart => exact ⟨i0 + 1, Nat.le_refl _, by omega, rfl, by rw [hlen0], ⟨HM1.out, by omega⟩, HG1.out, HW1.out⟩
    case round =>
      clear HM1 HG1 HW1 hlen0 ew d0
      obtain ⟨k, hk0, hk, rfl, rfl, HS⟩ := hrel
      obtain ⟨L, hL⟩ : ∃ L, selD F 5 D k = L := ⟨_, rfl⟩
      have HLl : Hid (∀ t ∈ L, t.length = 5) := by unfold Hid; rw [← hL]; exact selD_len F 5 D k
      have HL : Hid (selD F 5 D k = L) := hL
      rw [hL] at HS
      rw [hL]
      have hLk : L.length < k := HS.out.1.2
      clear hL
      by_cases hlt : k < n
      case neg =>
        obtain rfl : n = k := by omega
        have hmul : L.length * 5 + (n - L.length) * 5 ≤ cap * 5 := by
          rw [← Nat.add_mul]
          exact Nat.mul_le_mul_right 5 (by omega)
        obtain ⟨w3, hcl, hM3, hg3⟩ := run_clear_row 29 57 (.agg #[.int .i64 0, .int .i64 0, .int .i64 0, .int .i64 0, .int .i64 0]) 5 Tryz.underlying29 zeroSettled rfl (by intro v hv; simp [Value.cells] at hv; subst hv; rfl) wr g (L.length * 5) (n - L.length) (cap - L.length) (cap * 5) HS.out.1.1.1 hmul (by omega) (by omega)
        have Q : Hid ((Own w3 B 57 5 (selD F 5 D n).length (fun p => (selD F 5 D n).flatten.getD p 0) (.slice (some ⟨g, 0, none⟩) L.length cap)) ∧ w.grownBy w3 (some g) ∧ E w3) := by
          refine ⟨?_, ⟨hg3.os.trans HS.out.2.1.os, hg3.tape.trans HS.out.2.1.tape, hg3.output.trans HS.out.2.1.output, Nat.le_trans HS.out.2.1.size hg3.size, fun i hi hne => (hg3.block i (Nat.lt_of_lt_of_le hi HS.out.2.1.size) hne).trans (HS.out.2.1.block i hi hne)⟩, HE1.out _ _ HS.out.2.2 hg3⟩
          rw [HL.out]
          exact own_of hM3.1 HB.out (by omega) hcmH.out (fun p hp => (hM3.2 p hp).trans (HS.out.1.1.2.1 p hp))
        have hln : ((L.length : Nat) : Int) ≤ (n : Int) := by omega
        have hlc : ((L.length : Nat) : Int) ≤ (cap : Int) := by omega
        clear hM3 hg3 HS
        go_wp2
        go_ret
        exact ⟨_, rfl, ⟨Q.out.1, rfl⟩, Q.out.2.1, Q.out.2.2⟩
      have x0 := HS.out.1.1.2.2 (k * 5) (by omega) (by omega)
      obtain ⟨n0, N0⟩ : ∃ x, F (k * 5) = x := ⟨_, rfl⟩
      rw [N0] at x0
      have x1 := HS.out.1.1.2.2 (k * 5 + 1) (by omega) (by omega)
      obtain ⟨n1, N1⟩ : ∃ x, F (k * 5 + 1) = x := ⟨_, rfl⟩
      rw [N1] at x1
      have x2 := HS.out.1.1.2.2 (k * 5 + 2) (by omega) (by omega)
      obtain ⟨n2, N2⟩ : ∃ x, F (k * 5 + 2) = x := ⟨_, rfl⟩
      rw [N2] at x2
      have x3 := HS.out.1.1.2.2 (k * 5 + 3) (by omega) (by omega)
      obtain ⟨n3, N3⟩ : ∃ x, F (k * 5 + 3) = x := ⟨_, rfl⟩
      rw [N3] at x3
      have x4 := HS.out.1.1.2.2 (k * 5 + 4) (by omega) (by omega)
      obtain ⟨n4, N4⟩ : ∃ x, F (k * 5 + 4) = x := ⟨_, rfl⟩
      rw [N4] at x4
      have HD : Hid (struD F 5 k = [n0, n1, n2, n3, n4]) := by
        unfold Hid
        rw [← N0, ← N1, ← N2, ← N3, ← N4]
        rfl
      have hgl : g < wr.heap.size := HS.out.1.1.1.lt
      have HA : Hid (E (wr.alloc (.cells #[.int .i64 n0, .int .i64 n1, .int .i64 n2, .int .i64 n3, .int .i64 n4] 57))) := HE0.out _ _ HS.out.2.2 (below_alloc _ _)
      obtain ⟨r, hr⟩ : ∃ r, D [n0, n1, n2, n3, n4] = r := ⟨_, rfl⟩
      have HR : Hid (D [n0, n1, n2, n3, n4] = r) := hr
      clear N0 N1 N2 N3 N4 hr
      cases r with
      | true =>
        have HN : Hid (selD F 5 D (k + 1) = L) := (selD_gone (by rw [HD.out]; exact HR.out)).trans HL.out
        go_wp2_with fail
        refine (HC.out _ n0 n1 n2 n3 n4 HA.out).mono ?_
        rw [HR.out]
        rintro e w2 ⟨rfl, q2⟩
        have hb2 := (below_alloc wr (.cells #[.int .i64 n0, .int .i64 n1, .int .i64 n2, .int .i64 n3, .int .i64 n4] 57)).trans (q2.mono (by simp))
        have HS2 : Hid ((Mid w2 g 57 5 n cap F (selD F 5 D (k + 1)) (k + 1) ∧ (selD F 5 D (k + 1)).length < k + 1) ∧ w.grownBy w2 (some g) ∧ E w2) := by
          unfold Hid
          rw [HN.out]
          exact ⟨⟨(HS.out.1.1.later hb2).skip, by omega⟩, ⟨hb2.os.trans HS.out.2.1.os, hb2.tape.trans HS.out.2.1.tape, hb2.output.trans HS.out.2.1.output, Nat.le_trans HS.out.2.1.size hb2.size, fun i hi hne => (hb2.block i (Nat.lt_of_lt_of_le hi HS.out.2.1.size)).trans (HS.out.2.1.block i hi hne)⟩, HE0.out _ _ HS.out.2.2 hb2⟩
        have HNl : Hid ((selD F 5 D (k + 1)).length = L.length) := by unfold Hid; rw [HN.out]
        clear q2 hb2 HS HD HR HL HLl HA HN
        go_wp2
        go_roundw
        case rel => exact ⟨k + 1, by omega, by omega, by go_num, by rw [HNl.out], HS2⟩
        case measure => simp [intOf]; omega
      | false =>
        have HN : Hid (selD F 5 D (k + 1) = L ++ [[n0, n1, n2, n3, n4]]) := by
          unfold Hid
          rw [selD_kept (by rw [HD.out]; exact HR.out), HL.out, HD.out]
        go_wp2_with fail
        refine (HC.out _ n0 n1 n2 n3 n4 HA.out).mono ?_
        rw [HR.out]
        rintro e w2 ⟨rfl, q2⟩
        have hb2 := (below_alloc wr (.cells #[.int .i64 n0, .int .i64 n1, .int .i64 n2, .int .i64 n3, .int .i64 n4] 57)).trans (q2.mono (by simp))
        have y0 : w2.cell? ⟨wr.heap.size, 0, none⟩ = some (.int .i64 n0) := (q2.cell (p := ⟨wr.heap.size, 0, none⟩) (by simp)).trans (World.cell?_alloc_mark wr _ _ _ 0)
        have y1 : w2.cell? ⟨wr.heap.size, 1, none⟩ = some (.int .i64 n1) := (q2.cell (p := ⟨wr.heap.size, 1, none⟩) (by simp)).trans (World.cell?_alloc_mark wr _ _ _ 1)
        have y2 : w2.cell? ⟨wr.heap.size, 2, none⟩ = some (.int .i64 n2) := (q2.cell (p := ⟨wr.heap.size, 2, none⟩) (by simp)).trans (World.cell?_alloc_mark wr _ _ _ 2)
        have y3 : w2.cell? ⟨wr.heap.size, 3, none⟩ = some (.int .i64 n3) := (q2.cell (p := ⟨wr.heap.size, 3, none⟩) (by simp)).trans (World.cell?_alloc_mark wr _ _ _ 3)
        have y4 : w2.cell? ⟨wr.heap.size, 4, none⟩ = some (.int .i64 n4) := (q2.cell (p := ⟨wr.heap.size, 4, none⟩) (by simp)).trans (World.cell?_alloc_mark wr _ _ _ 4)
        have HM2 : Hid (Mid w2 g 57 5 n cap F L k ∧ w.grownBy w2 (some g) ∧ E w2) := ⟨HS.out.1.1.later hb2, ⟨hb2.os.trans HS.out.2.1.os, hb2.tape.trans HS.out.2.1.tape, hb2.output.trans HS.out.2.1.output, Nat.le_trans HS.out.2.1.size hb2.size, fun i hi hne => (hb2.block i (Nat.lt_of_lt_of_le hi HS.out.2.1.size)).trans (HS.out.2.1.block i hi hne)⟩, HE0.out _ _ HS.out.2.2 hb2⟩
        have hmul : (L.length + 1) * 5 ≤ cap * 5 := Nat.mul_le_mul_right 5 (by omega)
        have hsm : (L.length + 1) * 5 = L.length * 5 + 5 := Nat.succ_mul _ _
        obtain ⟨⟨u0, c0⟩, z0⟩ := HM2.out.1.1.cell (p := L.length * 5) (by omega)
        obtain ⟨⟨u1, c1⟩, z1⟩ := HM2.out.1.1.cell (p := L.length * 5 + 1) (by omega)
        obtain ⟨⟨u2, c2⟩, z2⟩ := HM2.out.1.1.cell (p := L.length * 5 + 2) (by omega)
        obtain ⟨⟨u3, c3⟩, z3⟩ := HM2.out.1.1.cell (p := L.length * 5 + 3) (by omega)
        obtain ⟨⟨u4, c4⟩, z4⟩ := HM2.out.1.1.cell (p := L.length * 5 + 4) (by omega)
        have hch : w2.setCells g (L.length * 5) ([n0, n1, n2, n3, n4].map (Value.int .i64)) = (((((w2.setCell ⟨g, L.length * 5, none⟩ (.int .i64 n0)).setCell ⟨g, L.length * 5 + 1, none⟩ (.int .i64 n1)).setCell ⟨g, L.length * 5 + 2, none⟩ (.int .i64 n2)).setCell ⟨g, L.length * 5 + 3, none⟩ (.int .i64 n3)).setCell ⟨g, L.length * 5 + 4, none⟩ (.int .i64 n4)) := rfl
        have HS2 : Hid ((Mid (((((w2.setCell ⟨g, L.length * 5, none⟩ (.int .i64 n0)).setCell ⟨g, L.length * 5 + 1, none⟩ (.int .i64 n1)).setCell ⟨g, L.length * 5 + 2, none⟩ (.int .i64 n2)).setCell ⟨g, L.length * 5 + 3, none⟩ (.int .i64 n3)).setCell ⟨g, L.length * 5 + 4, none⟩ (.int .i64 n4)) g 57 5 n cap F (selD F 5 D (k + 1)) (k + 1) ∧ (selD F 5 D (k + 1)).length < k + 1) ∧ w.grownBy (((((w2.setCell ⟨g, L.length * 5, none⟩ (.int .i64 n0)).setCell ⟨g, L.length * 5 + 1, none⟩ (.int .i64 n1)).setCell ⟨g, L.length * 5 + 2, none⟩ (.int .i64 n2)).setCell ⟨g, L.length * 5 + 3, none⟩ (.int .i64 n3)).setCell ⟨g, L.length * 5 + 4, none⟩ (.int .i64 n4)) (some g) ∧ E (((((w2.setCell ⟨g, L.length * 5, none⟩ (.int .i64 n0)).setCell ⟨g, L.length * 5 + 1, none⟩ (.int .i64 n1)).setCell ⟨g, L.length * 5 + 2, none⟩ (.int .i64 n2)).setCell ⟨g, L.length * 5 + 3, none⟩ (.int .i64 n3)).setCell ⟨g, L.length * 5 + 4, none⟩ (.int .i64 n4))) := by
          have hgs := grown_sets g ([n0, n1, n2, n3, n4].map (Value.int .i64)) (L.length * 5) w2
          have hmp := HM2.out.1.put HLl.out [n0, n1, n2, n3, n4] rfl (by omega) hlt hnc
          unfold Hid
          rw [← hch, HN.out]
          exact ⟨⟨hmp, by rw [List.length_append, List.length_singleton]; omega⟩, ⟨hgs.os.trans HM2.out.2.1.os, hgs.tape.trans HM2.out.2.1.tape, hgs.output.trans HM2.out.2.1.output, Nat.le_trans HM2.out.2.1.size hgs.size, fun i hi hne => (hgs.block i (Nat.lt_of_lt_of_le hi HM2.out.2.1.size) hne).trans (HM2.out.2.1.block i hi hne)⟩, HE1.out _ _ HM2.out.2.2 hgs⟩
        have HNl : Hid ((selD F 5 D (k + 1)).length = L.length + 1) := by unfold Hid; rw [HN.out, List.length_append, List.length_singleton]
        have hli : ((L.length : Nat) : Int) < (n : Int) := by omega
        have ew : IntKind.i64.wrap (((L.length : Nat) : Int) + 1) = ((L.length : Nat) : Int) + 1 := by
          simp [IntKind.wrap, IntKind.bits, IntKind.signed]
          omega
        clear q2 hb2 HS HD HR HL HLl HA HN hch HM2 hmul hsm
        go_wp2
        go_roundw
        case rel => exact ⟨k + 1, by omega, by omega, by go_num, by rw [HNl.out]; rfl, HS2⟩
        case measure => simp [intOf]; omega
end

section
open Go.RowKit Go.Lib
-- Own text. The program's settle: a write takes the place of the lock that it ends.
theorem below_drew (w : World) : Below w.heap.size w w.drew := ⟨rfl, rfl, rfl, Nat.le_refl _, fun _ _ => rfl⟩
/-- What settle stands on: the columns and the write, in a block of its own. -/
def SetE (w : World) (B b N : Nat) (m : Int → Int → Option Int) (nl : Nat) (l : Nat → Int) (nw : Nat) (k : Nat → Int) (g : Nat) (u1 u2 : Value) (x0 x1 x2 x3 : Int) (x : World) : Prop :=
  (x.cell? ⟨b, 2, none⟩ = some u2 ∧ x.cell? ⟨w.heap.size, 0, none⟩ = some (.int .i64 x0) ∧ x.cell? ⟨w.heap.size, 1, none⟩ = some (.int .i64 x1) ∧ x.cell? ⟨w.heap.size, 2, none⟩ = some (.int .i64 x2) ∧ x.cell? ⟨w.heap.size, 3, none⟩ = some (.int .i64 x3)) ∧
    Cols x B b N m nl l nw k g u1 u2 ∧ Blk4 x w.heap.size (.int .i64 x0) (.int .i64 x1) (.int .i64 x2) (.int .i64 x3) ∧ Below w.heap.size w x
theorem SetE.new {w x : World} {B b N : Nat} {m : Int → Int → Option Int} {nl : Nat} {l : Nat → Int} {nw : Nat} {k : Nat → Int} {g : Nat} {u1 u2 : Value} {x0 x1 x2 x3 : Int} (h : Cols x B b N m nl l nw k g u1 u2) (h4 : Blk4 x w.heap.size (.int .i64 x0) (.int .i64 x1) (.int .i64 x2) (.int .i64 x3)) (hb : Below w.heap.size w x) : SetE w B b N m nl l nw k g u1 u2 x0 x1 x2 x3 x :=
  ⟨⟨h.2.2.1.1.2.2, h4.1.1, h4.1.2.1, h4.1.2.2.1, h4.1.2.2.2⟩, h, h4, hb⟩
theorem SetE.later {w x x' : World} {B b N : Nat} {m : Int → Int → Option Int} {nl : Nat} {l : Nat → Int} {nw : Nat} {k : Nat → Int} {g : Nat} {u1 u2 : Value} {x0 x1 x2 x3 : Int} (h : SetE w B b N m nl l nw k g u1 u2 x0 x1 x2 x3 x) (hb : Below x.heap.size x x') : SetE w B b N m nl l nw k g u1 u2 x0 x1 x2 x3 x' :=
  SetE.new (h.2.1.later hb) (h.2.2.1.later hb) (h.2.2.2.trans (hb.mono h.2.2.2.size))
set_option maxRecDepth 100000 in
set_option maxHeartbeats 4000000 in
theorem settle_taken (B b N : Nat) (m : Int → Int → Option Int) (nl : Nat) (l : Nat → Int) (nw : Nat) (k : Nat → Int) (g : Nat) (u1 u2 : Value) (x0 x1 x2 x3 : Int) (w : World) (h : Cols w B b N m nl l nw k g u1 u2) (hw : nw ≤ 200)
    (hmono : ∀ i j, i ≤ j → j < nw → aheadW k x0 x1 j → aheadW k x0 x1 i) (ht : ∀ q, placeAt (aheadW k x0 x1) nw q → q < nw ∧ k (q * 4) = x0 ∧ k (q * 4 + 1) = x1) :
    Calls Tryz.prog 87 #[.pointer (some ⟨b, 0, none⟩), .agg #[.int .i64 x0, .int .i64 x1, .int .i64 x2, .int .i64 x3]] w fun e w' => e = .returned (.iface 111 (.agg #[.int .i64 4])) ∧ Below w.heap.size w w' := by
  have HT : Hid (∀ q, placeAt (aheadW k x0 x1) nw q → q < nw ∧ k (q * 4) = x0 ∧ k (q * 4 + 1) = x1) := ht
  clear ht
  obtain ⟨b1, d1, rfl⟩ := h.2.2.2.2.1.form
  obtain ⟨b2, d2, rfl⟩ := h.2.2.2.2.2.form
  have hbl := h.2.2.1.lt
  have HE : Hid (SetE w B b N m nl l nw k g (.slice b1 nl d1) (.slice b2 nw d2) x0 x1 x2 x3 (w.alloc (.cells #[.int .i64 x0, .int .i64 x1, .int .i64 x2, .int .i64 x3] 92))) := SetE.new (h.later (below_alloc _ _)) (Blk4.new w _ _ _ _ _) (below_alloc _ _)
  have HM : Hid (∀ i j, i ≤ j → j < nw → aheadW k x0 x1 j → aheadW k x0 x1 i) := hmono
  clear h hmono
  go_enter Tryz.func87, Tryz.ntmps87
  go_upto_region 1 with fail
  refine wp_region_held_drew (S := SetE w B b N m nl l nw k g (.slice b1 nl d1) (.slice b2 nw d2) x0 x1 x2 x3) (by kernel_rfl) (HE.out.later (below_drew _)) (fun hS => ?_)
  refine wpAnyH_take (i := 0) (v := ?_) rfl (by kernel_rfl) (by kernel_rfl) (by kernel_rfl) (fun _ _ _ h => h) (Or.inl ⟨by kernel_rfl, ?_⟩) hS ?_
  rotate_left
  · intro wx hx
    obtain ⟨⟨hx0, hx1, hx2, hx3, hx4⟩, _⟩ := hx
    go_simp
    try with_reducible rfl
  refine wpAnyH_take (i := 1) (v := ?_) rfl (by kernel_rfl) (by kernel_rfl) (by kernel_rfl) (fun _ _ _ h => h) (Or.inl ⟨by kernel_rfl, ?_⟩) hS ?_
  rotate_left
  · intro wx hx
    obtain ⟨⟨hx0, hx1, hx2, hx3, hx4⟩, _⟩ := hx
    go_simp
    try with_reducible rfl
  refine wpAnyH_take (i := 2) (v := ?_) rfl (by kernel_rfl) (by kernel_rfl) (by kernel_rfl) (fun _ _ _ h => h) (Or.inl ⟨by kernel_rfl, ?_⟩) hS ?_
  rotate_left
  · intro wx hx
    obtain ⟨⟨hx0, hx1, hx2, hx3, hx4⟩, _⟩ := hx
    go_simp
    try with_reducible rfl
  refine wpAnyH_take (i := 3) (v := ?_) rfl (by kernel_rfl) (by kernel_rfl) (by kernel_rfl) (fun _ _ _ h => h) (Or.inl ⟨by kernel_rfl, ?_⟩) hS ?_
  rotate_left
  · intro wx hx
    obtain ⟨⟨hx0, hx1, hx2, hx3, hx4⟩, _⟩ := hx
    go_simp
    try with_reducible rfl
  refine wpAnyH_take (i := 4) (v := ?_) rfl (by kernel_rfl) (by kernel_rfl) (by kernel_rfl) (fun _ _ _ h => h) (Or.inl ⟨by kernel_rfl, ?_⟩) hS ?_
  rotate_left
  · intro wx hx
    obtain ⟨⟨hx0, hx1, hx2, hx3, hx4⟩, _⟩ := hx
    go_simp
    try with_reducible rfl
  refine wpAnyH_ready (rs := [5]) (by kernel_rfl) (by simp) ?_
  refine AllReadyH.cons rfl (fun K hK => ?_) AllReadyH.nil
  go_simp
  go_wp2_with fail
  refine (searchW_any nw k b2 d2 B x0 x1 x2 x3 _ hS.2.1.2.2.2.2.2.row.1 (by omega) HM.out).mono ?_
  rintro e w1 ⟨at_, r, rfl, hat, hr, q1⟩
  have S1 := hS.later q1
  go_wp2_with fail
  refine hK.out _ _ S1 (fun hS => ?_)
  clear hK K q1 S1 HE
  obtain rfl : r = true := hr.2 (HT.out _ hat)
  clear hat hr HT HM
  refine wpAnyH_take (i := 6) (v := ?_) rfl (by kernel_rfl) (by kernel_rfl) (by kernel_rfl) (fun _ _ _ h => h) (Or.inl ⟨by kernel_rfl, ?_⟩) hS ?_
  rotate_left
  · intro wx hx
    obtain ⟨⟨hx0, hx1, hx2, hx3, hx4⟩, _⟩ := hx
    go_simp
    try with_reducible rfl
  refine wpAnyH_take (i := 7) (v := ?_) rfl (by kernel_rfl) (by kernel_rfl) (by kernel_rfl) (fun _ _ _ h => h) (Or.inl ⟨by kernel_rfl, ?_⟩) hS ?_
  rotate_left
  · intro wx hx
    obtain ⟨⟨hx0, hx1, hx2, hx3, hx4⟩, _⟩ := hx
    go_simp
    try with_reducible rfl
  refine wpAnyH_take (i := 8) (v := ?_) rfl (by kernel_rfl) (by kernel_rfl) (by kernel_rfl) (fun _ _ _ h => h) (Or.inl ⟨by kernel_rfl, ?_⟩) hS ?_
  rotate_left
  · intro wx hx
    obtain ⟨⟨hx0, hx1, hx2, hx3, hx4⟩, _⟩ := hx
    go_simp
    try with_reducible rfl
  refine wpAnyH_take (i := 9) (v := ?_) rfl (by kernel_rfl) (by kernel_rfl) (by kernel_rfl) (fun _ _ _ h => h) (Or.inl ⟨by kernel_rfl, ?_⟩) hS ?_
  rotate_left
  · intro wx hx
    obtain ⟨⟨hx0, hx1, hx2, hx3, hx4⟩, _⟩ := hx
    go_simp
    try with_reducible rfl
  refine wpAnyH_take (i := 10) (v := ?_) rfl (by kernel_rfl) (by kernel_rfl) (by kernel_rfl) (fun _ _ _ h => h) (Or.inl ⟨by kernel_rfl, ?_⟩) hS ?_
  rotate_left
  · intro wx hx
    obtain ⟨⟨hx0, hx1, hx2, hx3, hx4⟩, _⟩ := hx
    go_simp
    try with_reducible rfl
  refine wpAnyH_done (by kernel_rfl) ?_ _
  go_simp
  go_wp2
  go_ret
  exact ⟨rfl, hS.2.2.2⟩
set_option maxRecDepth 100000 in
set_option maxHeartbeats 4000000 in
theorem settle_full (B b N : Nat) (m : Int → Int → Option Int) (nl : Nat) (l : Nat → Int) (nw : Nat) (k : Nat → Int) (g : Nat) (u1 u2 : Value) (x0 x1 x2 x3 : Int) (w : World) (h : Cols w B b N m nl l nw k g u1 u2) (hw : nw = 200)
    (hmono : ∀ i j, i ≤ j → j < nw → aheadW k x0 x1 j → aheadW k x0 x1 i) (ht : ∀ q, placeAt (aheadW k x0 x1) nw q → ¬ (q < nw ∧ k (q * 4) = x0 ∧ k (q * 4 + 1) = x1)) :
    Calls Tryz.prog 87 #[.pointer (some ⟨b, 0, none⟩), .agg #[.int .i64 x0, .int .i64 x1, .int .i64 x2, .int .i64 x3]] w fun e w' => e = .returned (.iface 111 (.agg #[.int .i64 5])) ∧ Below w.heap.size w w' := by
  have HT : Hid (∀ q, placeAt (aheadW k x0 x1) nw q → ¬ (q < nw ∧ k (q * 4) = x0 ∧ k (q * 4 + 1) = x1)) := ht
  have dn : decide ((200 : Int) ≤ (nw : Int)) = true := decide_eq_true (by omega)
  have hw' : nw ≤ 200 := by omega
  clear ht hw
  obtain ⟨b1, d1, rfl⟩ := h.2.2.2.2.1.form
  obtain ⟨b2, d2, rfl⟩ := h.2.2.2.2.2.form
  have hbl := h.2.2.1.lt
  have HE : Hid (SetE w B b N m nl l nw k g (.slice b1 nl d1) (.slice b2 nw d2) x0 x1 x2 x3 (w.alloc (.cells #[.int .i64 x0, .int .i64 x1, .int .i64 x2, .int .i64 x3] 92))) := SetE.new (h.later (below_alloc _ _)) (Blk4.new w _ _ _ _ _) (below_alloc _ _)
  have HM : Hid (∀ i j, i ≤ j → j < nw → aheadW k x0 x1 j → aheadW k x0 x1 i) := hmono
  clear h hmono
  go_enter Tryz.func87, Tryz.ntmps87
  go_upto_region 1 with fail
  refine wp_region_held_drew (S := SetE w B b N m nl l nw k g (.slice b1 nl d1) (.slice b2 nw d2) x0 x1 x2 x3) (by kernel_rfl) (HE.out.later (below_drew _)) (fun hS => ?_)
  refine wpAnyH_take (i := 0) (v := ?_) rfl (by kernel_rfl) (by kernel_rfl) (by kernel_rfl) (fun _ _ _ h => h) (Or.inl ⟨by kernel_rfl, ?_⟩) hS ?_
  rotate_left
  · intro wx hx
    obtain ⟨⟨hx0, hx1, hx2, hx3, hx4⟩, _⟩ := hx
    go_simp
    try with_reducible rfl
  refine wpAnyH_take (i := 1) (v := ?_) rfl (by kernel_rfl) (by kernel_rfl) (by kernel_rfl) (fun _ _ _ h => h) (Or.inl ⟨by kernel_rfl, ?_⟩) hS ?_
  rotate_left
  · intro wx hx
    obtain ⟨⟨hx0, hx1, hx2, hx3, hx4⟩, _⟩ := hx
    go_simp
    try with_reducible rfl
  refine wpAnyH_take (i := 2) (v := ?_) rfl (by kernel_rfl) (by kernel_rfl) (by kernel_rfl) (fun _ _ _ h => h) (Or.inl ⟨by kernel_rfl, ?_⟩) hS ?_
  rotate_left
  · intro wx hx
    obtain ⟨⟨hx0, hx1, hx2, hx3, hx4⟩, _⟩ := hx
    go_simp
    try with_reducible rfl
  refine wpAnyH_take (i := 3) (v := ?_) rfl (by kernel_rfl) (by kernel_rfl) (by kernel_rfl) (fun _ _ _ h => h) (Or.inl ⟨by kernel_rfl, ?_⟩) hS ?_
  rotate_left
  · intro wx hx
    obtain ⟨⟨hx0, hx1, hx2, hx3, hx4⟩, _⟩ := hx
    go_simp
    try with_reducible rfl
  refine wpAnyH_take (i := 4) (v := ?_) rfl (by kernel_rfl) (by kernel_rfl) (by kernel_rfl) (fun _ _ _ h => h) (Or.inl ⟨by kernel_rfl, ?_⟩) hS ?_
  rotate_left
  · intro wx hx
    obtain ⟨⟨hx0, hx1, hx2, hx3, hx4⟩, _⟩ := hx
    go_simp
    try with_reducible rfl
  refine wpAnyH_ready (rs := [5]) (by kernel_rfl) (by simp) ?_
  refine AllReadyH.cons rfl (fun K hK => ?_) AllReadyH.nil
  go_simp
  go_wp2_with fail
  refine (searchW_any nw k b2 d2 B x0 x1 x2 x3 _ hS.2.1.2.2.2.2.2.row.1 (by omega) HM.out).mono ?_
  rintro e w1 ⟨at_, r, rfl, hat, hr, q1⟩
  have S1 := hS.later q1
  go_wp2_with fail
  refine hK.out _ _ S1 (fun hS => ?_)
  clear hK K q1 S1 HE
  obtain rfl : r = false := Bool.eq_false_iff.2 (fun q => HT.out _ hat (hr.1 q))
  clear hat hr HT HM
  refine wpAnyH_take (i := 6) (v := ?_) rfl (by kernel_rfl) (by kernel_rfl) (by kernel_rfl) (fun _ _ _ h => h) (Or.inl ⟨by kernel_rfl, ?_⟩) hS ?_
  rotate_left
  · intro wx hx
    obtain ⟨⟨hx0, hx1, hx2, hx3, hx4⟩, _⟩ := hx
    go_simp
    try with_reducible rfl
  refine wpAnyH_take (i := 7) (v := ?_) rfl (by kernel_rfl) (by kernel_rfl) (by kernel_rfl) (fun _ _ _ h => h) (Or.inl ⟨by kernel_rfl, ?_⟩) hS ?_
  rotate_left
  · intro wx hx
    obtain ⟨⟨hx0, hx1, hx2, hx3, hx4⟩, _⟩ := hx
    go_simp
    try with_reducible rfl
  refine wpAnyH_take (i := 8) (v := ?_) rfl (by kernel_rfl) (by kernel_rfl) (by kernel_rfl) (fun _ _ _ h => h) (Or.inl ⟨by kernel_rfl, ?_⟩) hS ?_
  rotate_left
  · intro wx hx
    obtain ⟨⟨hx0, hx1, hx2, hx3, hx4⟩, _⟩ := hx
    go_simp
    try with_reducible rfl
  refine wpAnyH_take (i := 9) (v := ?_) rfl (by kernel_rfl) (by kernel_rfl) (by kernel_rfl) (fun _ _ _ h => h) (Or.inl ⟨by kernel_rfl, ?_⟩) hS ?_
  rotate_left
  · intro wx hx
    obtain ⟨⟨hx0, hx1, hx2, hx3, hx4⟩, _⟩ := hx
    go_simp
    try with_reducible rfl
  refine wpAnyH_take (i := 10) (v := ?_) rfl (by kernel_rfl) (by kernel_rfl) (by kernel_rfl) (fun _ _ _ h => h) (Or.inl ⟨by kernel_rfl, ?_⟩) hS ?_
  rotate_left
  · intro wx hx
    obtain ⟨⟨hx0, hx1, hx2, hx3, hx4⟩, _⟩ := hx
    go_simp
    try with_reducible rfl
  refine wpAnyH_done (by kernel_rfl) ?_ _
  go_simp
  have p2 := hS.1.1
  go_wp2
  go_ret
  exact ⟨rfl, hS.2.2.2⟩
end

section
open Go.RowKit Go.Lib
-- Own text. The program's settle, where the write goes in: it takes the place of the lock that it ends.
set_option maxRecDepth 100000 in
set_option maxHeartbeats 4000000 in
theorem settle_done (B b N : Nat) (m : Int → Int → Option Int) (nl : Nat) (l : Nat → Int) (nw : Nat) (k : Nat → Int) (g : Nat) (u1 u2 : Value) (x0 x1 x2 x3 : Int) (w : World) (h : Cols w B b N m nl l nw k g u1 u2) (hA : ApartC b g u1 u2) (hl : nl ≤ 200) (hw : nw < 200)
    (hmono : ∀ i j, i ≤ j → j < nw → aheadW k x0 x1 j → aheadW k x0 x1 i) (ht : ∀ q, placeAt (aheadW k x0 x1) nw q → ¬ (q < nw ∧ k (q * 4) = x0 ∧ k (q * 4 + 1) = x1)) :
    Calls Tryz.prog 87 #[.pointer (some ⟨b, 0, none⟩), .agg #[.int .i64 x0, .int .i64 x1, .int .i64 x2, .int .i64 x3]] w fun e w' => e = .returned .nilIface ∧ (∃ q u1' u2', placeAt (aheadW k x0 x1) nw q ∧ Cols w' B b N m (unlL l x0 x2 nl).length (fun p => (unlL l x0 x2 nl).flatten.getD p 0) (nw + 1) (insF k 4 nw q [x0, x1, x2, x3]) g u1' u2' ∧ ApartC b g u1' u2') ∧ Below B w w' := by
  have HT : Hid (∀ q, placeAt (aheadW k x0 x1) nw q → ¬ (q < nw ∧ k (q * 4) = x0 ∧ k (q * 4 + 1) = x1)) := ht
  have HA : Hid (ApartC b g u1 u2) := hA
  have dn : decide ((200 : Int) ≤ (nw : Int)) = false := decide_eq_false (by omega)
  have H0 : Hid (Cols w B b N m nl l nw k g u1 u2) := h
  obtain ⟨POST, hPO⟩ : ∃ POST : World → Prop, ∀ w', POST w' ↔ ((∃ q u1' u2', placeAt (aheadW k x0 x1) nw q ∧ Cols w' B b N m (unlL l x0 x2 nl).length (fun p => (unlL l x0 x2 nl).flatten.getD p 0) (nw + 1) (insF k 4 nw q [x0, x1, x2, x3]) g u1' u2' ∧ ApartC b g u1' u2') ∧ Below B w w') := ⟨_, fun _ => Iff.rfl⟩
  refine Calls.mono (R := fun e w' => e = .returned .nilIface ∧ POST w') ?_ (fun e w' h => ⟨h.1, (hPO w').1 h.2⟩)
  have HPO : Hid (∀ w', ((∃ q u1' u2', placeAt (aheadW k x0 x1) nw q ∧ Cols w' B b N m (unlL l x0 x2 nl).length (fun p => (unlL l x0 x2 nl).flatten.getD p 0) (nw + 1) (insF k 4 nw q [x0, x1, x2, x3]) g u1' u2' ∧ ApartC b g u1' u2') ∧ Below B w w') → POST w') := fun w' h => (hPO w').2 h
  clear ht hA hPO
  obtain ⟨b1, d1, rfl⟩ := h.2.2.2.2.1.form
  obtain ⟨b2, d2, rfl⟩ := h.2.2.2.2.2.form
  have hbl := h.2.2.1.lt
  have HE : Hid (SetE w B b N m nl l nw k g (.slice b1 nl d1) (.slice b2 nw d2) x0 x1 x2 x3 (w.alloc (.cells #[.int .i64 x0, .int .i64 x1, .int .i64 x2, .int .i64 x3] 92))) := SetE.new (h.later (below_alloc _ _)) (Blk4.new w _ _ _ _ _) (below_alloc _ _)
  have HM : Hid (∀ i j, i ≤ j → j < nw → aheadW k x0 x1 j → aheadW k x0 x1 i) := hmono
  clear h hmono
  go_enter Tryz.func87, Tryz.ntmps87
  go_upto_region 1 with fail
  refine wp_region_held_drew (S := SetE w B b N m nl l nw k g (.slice b1 nl d1) (.slice b2 nw d2) x0 x1 x2 x3) (by kernel_rfl) (HE.out.later (below_drew _)) (fun hS => ?_)
  refine wpAnyH_take (i := 0) (v := ?_) rfl (by kernel_rfl) (by kernel_rfl) (by kernel_rfl) (fun _ _ _ h => h) (Or.inl ⟨by kernel_rfl, ?_⟩) hS ?_
  rotate_left
  · intro wx hx
    obtain ⟨⟨hx0, hx1, hx2, hx3, hx4⟩, _⟩ := hx
    go_simp
    try with_reducible rfl
  refine wpAnyH_take (i := 1) (v := ?_) rfl (by kernel_rfl) (by kernel_rfl) (by kernel_rfl) (fun _ _ _ h => h) (Or.inl ⟨by kernel_rfl, ?_⟩) hS ?_
  rotate_left
  · intro wx hx
    obtain ⟨⟨hx0, hx1, hx2, hx3, hx4⟩, _⟩ := hx
    go_simp
    try with_reducible rfl
  refine wpAnyH_take (i := 2) (v := ?_) rfl (by kernel_rfl) (by kernel_rfl) (by kernel_rfl) (fun _ _ _ h => h) (Or.inl ⟨by kernel_rfl, ?_⟩) hS ?_
  rotate_left
  · intro wx hx
    obtain ⟨⟨hx0, hx1, hx2, hx3, hx4⟩, _⟩ := hx
    go_simp
    try with_reducible rfl
  refine wpAnyH_take (i := 3) (v := ?_) rfl (by kernel_rfl) (by kernel_rfl) (by kernel_rfl) (fun _ _ _ h => h) (Or.inl ⟨by kernel_rfl, ?_⟩) hS ?_
  rotate_left
  · intro wx hx
    obtain ⟨⟨hx0, hx1, hx2, hx3, hx4⟩, _⟩ := hx
    go_simp
    try with_reducible rfl
  refine wpAnyH_take (i := 4) (v := ?_) rfl (by kernel_rfl) (by kernel_rfl) (by kernel_rfl) (fun _ _ _ h => h) (Or.inl ⟨by kernel_rfl, ?_⟩) hS ?_
  rotate_left
  · intro wx hx
    obtain ⟨⟨hx0, hx1, hx2, hx3, hx4⟩, _⟩ := hx
    go_simp
    try with_reducible rfl
  refine wpAnyH_ready (rs := [5]) (by kernel_rfl) (by simp) ?_
  refine AllReadyH.cons rfl (fun K hK => ?_) AllReadyH.nil
  go_simp
  go_wp2_with fail
  refine (searchW_any nw k b2 d2 B x0 x1 x2 x3 _ hS.2.1.2.2.2.2.2.row.1 (by omega) HM.out).mono ?_
  rintro e w1 ⟨at_, r, rfl, hat, hr, q1⟩
  have S1 := hS.later q1
  go_wp2_with fail
  refine hK.out _ _ S1 (fun hS => ?_)
  clear hK K q1 S1 HE
  obtain rfl : r = false := Bool.eq_false_iff.2 (fun q => HT.out _ hat (hr.1 q))
  have HP : Hid (placeAt (aheadW k x0 x1) nw at_) := hat
  clear hat hr HT HM
  refine wpAnyH_take (i := 6) (v := ?_) rfl (by kernel_rfl) (by kernel_rfl) (by kernel_rfl) (fun _ _ _ h => h) (Or.inl ⟨by kernel_rfl, ?_⟩) hS ?_
  rotate_left
  · intro wx hx
    obtain ⟨⟨hx0, hx1, hx2, hx3, hx4⟩, _⟩ := hx
    go_simp
    try with_reducible rfl
  refine wpAnyH_take (i := 7) (v := ?_) rfl (by kernel_rfl) (by kernel_rfl) (by kernel_rfl) (fun _ _ _ h => h) (Or.inl ⟨by kernel_rfl, ?_⟩) hS ?_
  rotate_left
  · intro wx hx
    obtain ⟨⟨hx0, hx1, hx2, hx3, hx4⟩, _⟩ := hx
    go_simp
    try with_reducible rfl
  refine wpAnyH_take (i := 8) (v := ?_) rfl (by kernel_rfl) (by kernel_rfl) (by kernel_rfl) (fun _ _ _ h => h) (Or.inl ⟨by kernel_rfl, ?_⟩) hS ?_
  rotate_left
  · intro wx hx
    obtain ⟨⟨hx0, hx1, hx2, hx3, hx4⟩, _⟩ := hx
    go_simp
    try with_reducible rfl
  refine wpAnyH_take (i := 9) (v := ?_) rfl (by kernel_rfl) (by kernel_rfl) (by kernel_rfl) (fun _ _ _ h => h) (Or.inl ⟨by kernel_rfl, ?_⟩) hS ?_
  rotate_left
  · intro wx hx
    obtain ⟨⟨hx0, hx1, hx2, hx3, hx4⟩, _⟩ := hx
    go_simp
    try with_reducible rfl
  refine wpAnyH_take (i := 10) (v := ?_) rfl (by kernel_rfl) (by kernel_rfl) (by kernel_rfl) (fun _ _ _ h => h) (Or.inl ⟨by kernel_rfl, ?_⟩) hS ?_
  rotate_left
  · intro wx hx
    obtain ⟨⟨hx0, hx1, hx2, hx3, hx4⟩, _⟩ := hx
    go_simp
    try with_reducible rfl
  refine wpAnyH_done (by kernel_rfl) ?_ _
  go_simp
  obtain ⟨⟨p2, y0, y1, y2, y3⟩, HC0, HB0, HW0⟩ := hS
  have HC : Hid (Cols w1 B b N m nl l nw k g (.slice b1 nl d1) (.slice b2 nw d2)) := HC0
  have HB4 : Hid (Blk4 w1 w.heap.size (.int .i64 x0) (.int .i64 x1) (.int .i64 x2) (.int .i64 x3)) := HB0
  have HBW : Hid (Below w.heap.size w w1) := HW0
  clear HC0 HB0 HW0
  have hOI : Hid (∀ q, (Value.slice b2 nw d2).ownBlock = some q → B ≤ q ∧ q < w.heap.size) := own_in H0.out.2.2.2.2.2
  have hOL : Hid (∀ q, (Value.slice b1 nl d1).ownBlock = some q → B ≤ q ∧ q < w.heap.size) := own_in H0.out.2.2.2.2.1
  have hgl : g < w.heap.size := H0.out.2.2.2.1.lt
  have hBb : Hid (B ≤ b ∧ B ≤ g) := ⟨H0.out.1, H0.out.2.1⟩
  have hzl : Hid (w.heap.size < w1.heap.size) := HB4.out.lt
  have HY : Hid (Below w1.heap.size w1 (w1.alloc (.cells #[.int .i64 x0, .int .i64 x1, .int .i64 x2, .int .i64 x3] 92)).drew) := (below_alloc w1 _).trans ((below_drew _).mono (by simp))
  have HI : Hid (Calls Tryz.prog 110 #[.slice b2 nw d2, .int .i64 at_, .slice (some ⟨w1.heap.size, 0, none⟩) 1 1] (w1.alloc (.cells #[.int .i64 x0, .int .i64 x1, .int .i64 x2, .int .i64 x3] 92)).drew (InsW (w1.alloc (.cells #[.int .i64 x0, .int .i64 x1, .int .i64 x2, .int .i64 x3] 92)).drew B nw at_ k [x0, x1, x2, x3] (.slice b2 nw d2))) :=
    insW_any _ B nw at_ w1.heap.size 1 k [x0, x1, x2, x3] _ rfl (HC.out.2.2.2.2.2.later HY.out) (Nat.le_trans hBb.out.1 (Nat.le_trans (Nat.le_of_lt hbl) (Nat.le_trans HBW.out.size HY.out.size))) (by omega) HP.out.1 (fun e => by have := (hOI.out _ e).2; have := hzl.out; omega) (Blkk.made w1 _ _ _ rfl).drew (fun p hp => by
      rw [drew_cell, World.cell?_alloc_at (w := w1) _ _ _ p rfl]
      obtain rfl | rfl | rfl | rfl : p = 0 ∨ p = 1 ∨ p = 2 ∨ p = 3 := by omega
      all_goals rfl)
  have SY : Hid (((w1.alloc (.cells #[.int .i64 x0, .int .i64 x1, .int .i64 x2, .int .i64 x3] 92)).drew).cell? ⟨w.heap.size, 0, none⟩ = some (.int .i64 x0) ∧ ((w1.alloc (.cells #[.int .i64 x0, .int .i64 x1, .int .i64 x2, .int .i64 x3] 92)).drew).cell? ⟨w.heap.size, 1, none⟩ = some (.int .i64 x1) ∧ ((w1.alloc (.cells #[.int .i64 x0, .int .i64 x1, .int .i64 x2, .int .i64 x3] 92)).drew).cell? ⟨w.heap.size, 2, none⟩ = some (.int .i64 x2) ∧ ((w1.alloc (.cells #[.int .i64 x0, .int .i64 x1, .int .i64 x2, .int .i64 x3] 92)).drew).cell? ⟨w.heap.size, 3, none⟩ = some (.int .i64 x3)) := (HB4.out.later HY.out).1
  go_upto_region 6 with fail
  refine wp_region_held_drew (S := fun X => X.cell? ⟨w.heap.size, 0, none⟩ = some (.int .i64 x0) ∧ X.cell? ⟨w.heap.size, 1, none⟩ = some (.int .i64 x1) ∧ X.cell? ⟨w.heap.size, 2, none⟩ = some (.int .i64 x2) ∧ X.cell? ⟨w.heap.size, 3, none⟩ = some (.int .i64 x3)) (by kernel_rfl) ⟨y0, y1, y2, y3⟩ (fun hS => ?_)
  refine wpAnyH_take (i := 0) (v := ?_) rfl (by kernel_rfl) (by kernel_rfl) (by kernel_rfl) (fun _ _ _ h => h) (Or.inl ⟨by kernel_rfl, ?_⟩) hS ?_
  rotate_left
  · intro wx hx
    obtain ⟨hx0, hx1, hx2, hx3⟩ := hx
    go_simp
    try with_reducible rfl
  refine wpAnyH_take (i := 1) (v := ?_) rfl (by kernel_rfl) (by kernel_rfl) (by kernel_rfl) (fun _ _ _ h => h) (Or.inl ⟨by kernel_rfl, ?_⟩) hS ?_
  rotate_left
  · intro wx hx
    obtain ⟨hx0, hx1, hx2, hx3⟩ := hx
    go_simp
    try with_reducible rfl
  refine wpAnyH_take (i := 2) (v := ?_) rfl (by kernel_rfl) (by kernel_rfl) (by kernel_rfl) (fun _ _ _ h => h) (Or.inl ⟨by kernel_rfl, ?_⟩) hS ?_
  rotate_left
  · intro wx hx
    obtain ⟨hx0, hx1, hx2, hx3⟩ := hx
    go_simp
    try with_reducible rfl
  refine wpAnyH_take (i := 3) (v := ?_) rfl (by kernel_rfl) (by kernel_rfl) (by kernel_rfl) (fun _ _ _ h => h) (Or.inl ⟨by kernel_rfl, ?_⟩) hS ?_
  rotate_left
  · intro wx hx
    obtain ⟨hx0, hx1, hx2, hx3⟩ := hx
    go_simp
    try with_reducible rfl
  refine wpAnyH_take (i := 5) (v := ?_) rfl (by kernel_rfl) (by kernel_rfl) (by kernel_rfl) (fun _ _ _ h => h) (Or.inl ⟨by kernel_rfl, ?_⟩) hS ?_
  rotate_left
  · intro wx hx
    obtain ⟨hx0, hx1, hx2, hx3⟩ := hx
    go_simp
    try with_reducible rfl
  refine wpAnyH_take (i := 6) (v := ?_) rfl (by kernel_rfl) (by kernel_rfl) (by kernel_rfl) (fun _ _ _ h => h) (Or.inl ⟨by kernel_rfl, ?_⟩) hS ?_
  rotate_left
  · intro wx hx
    obtain ⟨hx0, hx1, hx2, hx3⟩ := hx
    go_simp
    try with_reducible rfl
  refine wpAnyH_ready (rs := [4, 7]) (by kernel_rfl) (by simp) ?_
  refine AllReadyH.cons rfl (fun K hK => ?_) (AllReadyH.cons rfl (fun K hK => ?_) AllReadyH.nil)
  · go_simp
    refine hK.out _ _ hS (fun hS => ?_)
    clear hK K
    refine wpAnyH_ready (rs := [7]) (by kernel_rfl) (by simp) ?_
    refine AllReadyH.cons rfl (fun K hK => ?_) AllReadyH.nil
    go_simp
    refine hK.out _ _ SY.out (fun hS => ?_)
    clear hK K
    refine wpAnyH_ready (rs := [8]) (by kernel_rfl) (by simp) ?_
    refine AllReadyH.cons rfl (fun K hK => ?_) AllReadyH.nil
    go_simp
    go_wp2_with fail
    refine HI.out.mono ?_
    rintro e w4 ⟨e2, f2, rfl, O4, G4, A4⟩
    have hk4 : ∀ i, i < w1.heap.size → (∀ q, (Value.slice b2 nw d2).ownBlock = some q → i ≠ q) → w4.heap[i]? = w1.heap[i]? := fun i h1 h2 => (G4.block i (Nat.lt_of_lt_of_le h1 HY.out.size) (fun e => h2 i e.symm rfl)).trans (HY.out.block i h1)
    have HB4' : Hid (Blk4 w4 w.heap.size (.int .i64 x0) (.int .i64 x1) (.int .i64 x2) (.int .i64 x3)) := HB4.out.kept (hk4 _ HB4.out.lt (fun q hq e => by have := (hOI.out q hq).2; omega))
    have HB' : Hid (Blk3 w4 b (.map (some g)) (.slice b1 nl d1) (.slice b2 nw d2)) := HC.out.2.2.1.kept (hk4 _ HC.out.2.2.1.lt (fun q hq e => (HA.out.2.2.1 q hq).1 e.symm))
    have HP4 : Hid (PM w4 g N m) := HC.out.2.2.2.1.kept (hk4 _ HC.out.2.2.2.1.lt (fun q hq e => (HA.out.2.2.1 q hq).2 e.symm))
    have HL4 : Hid (Own w4 B 57 5 nl l (.slice b1 nl d1)) := HC.out.2.2.2.2.1.kept (fun j hj => hk4 j (own_in HC.out.2.2.2.2.1 j hj).2 (fun q hq e => HA.out.2.2.2 j hj (by rw [hq, e])))
    have HW4 : Hid (Own w4 B 92 4 (nw + 1) (insF k 4 nw at_ [x0, x1, x2, x3]) (.slice e2 (nw + 1) f2)) := O4
    have HA4 : Hid (∀ q, (Value.slice e2 (nw + 1) f2).ownBlock = some q → (Value.slice b2 nw d2).ownBlock = some q ∨ w.heap.size < q) := fun q hq => (A4 q hq).imp id (fun h => by have := HY.out.size; have := hzl.out; omega)
    have HBB : Hid (Below B w w4) := ⟨G4.os.trans (HY.out.os.trans HBW.out.os), G4.tape.trans (HY.out.tape.trans HBW.out.tape), G4.output.trans (HY.out.output.trans HBW.out.output), Nat.le_trans HBW.out.size (Nat.le_trans HY.out.size G4.size), fun i hi => (hk4 i (by have := hBb.out; have := hzl.out; omega) (fun q hq e => by have := (hOI.out q hq).1; omega)).trans (HBW.out.block i (by have := hBb.out; omega))⟩
    have S4 := HB4'.out.1
    clear O4 G4 A4 hk4 HC HB4 HBW HI HY SY hS p2 y0 y1 y2 y3
    go_wp2_with fail
    refine hK.out _ _ S4 (fun hS => ?_)
    clear hK K S4
    refine wpAnyH_take (i := 9) (v := ?_) rfl (by kernel_rfl) (by kernel_rfl) (by kernel_rfl) (fun _ _ _ h => h) (Or.inl ⟨by kernel_rfl, ?_⟩) hS ?_
    rotate_left
    · intro wx hx
      obtain ⟨hx0, hx1, hx2, hx3⟩ := hx
      go_simp
      try with_reducible rfl
    refine wpAnyH_take (i := 10) (v := ?_) rfl (by kernel_rfl) (by kernel_rfl) (by kernel_rfl) (fun _ _ _ h => h) (Or.inl ⟨by kernel_rfl, ?_⟩) hS ?_
    rotate_left
    · intro wx hx
      obtain ⟨hx0, hx1, hx2, hx3⟩ := hx
      go_simp
      try with_reducible rfl
    obtain ⟨⟨t0, t1, t2⟩, ft0, ft1, ft2⟩ := HB'.out
    refine wpAnyH_ready (rs := [11]) (by kernel_rfl) (by simp) ?_
    refine AllReadyH.cons rfl (fun K hK => ?_) AllReadyH.nil
    go_simp
    have hk5 : ∀ i, i ≠ b → (w4.setCell ⟨b, 2, none⟩ (.slice e2 (nw + 1) f2)).heap[i]? = w4.heap[i]? := fun i hi => Below.heap_setCell w4 ⟨b, 2, none⟩ _ i hi
    have H45 : Hid (Blk4 (w4.setCell ⟨b, 2, none⟩ (.slice e2 (nw + 1) f2)) w.heap.size (.int .i64 x0) (.int .i64 x1) (.int .i64 x2) (.int .i64 x3)) := HB4'.out.kept (hk5 _ (by omega))
    have HB5 : Hid (Blk3 (w4.setCell ⟨b, 2, none⟩ (.slice e2 (nw + 1) f2)) b (.map (some g)) (.slice b1 nl d1) (.slice e2 (nw + 1) f2)) := HB'.out.set2 _
    have HP5 : Hid (PM (w4.setCell ⟨b, 2, none⟩ (.slice e2 (nw + 1) f2)) g N m) := HP4.out.kept (hk5 _ HA.out.1)
    have HL5 : Hid (Own (w4.setCell ⟨b, 2, none⟩ (.slice e2 (nw + 1) f2)) B 57 5 nl l (.slice b1 nl d1)) := HL4.out.kept (fun j hj => hk5 j (HA.out.2.1 j hj).1)
    have hub : Hid (∀ q, (Value.slice e2 (nw + 1) f2).ownBlock = some q → q ≠ b ∧ q ≠ g) := fun q hq => (HA4.out q hq).elim (fun h => HA.out.2.2.1 q h) (fun h => ⟨by omega, by omega⟩)
    have HW5 : Hid (Own (w4.setCell ⟨b, 2, none⟩ (.slice e2 (nw + 1) f2)) B 92 4 (nw + 1) (insF k 4 nw at_ [x0, x1, x2, x3]) (.slice e2 (nw + 1) f2)) := HW4.out.kept (fun j hj => hk5 j (hub.out j hj).1)
    have HBB5 : Hid (Below B w (w4.setCell ⟨b, 2, none⟩ (.slice e2 (nw + 1) f2))) := HBB.out.setCell hBb.out.1 _
    refine hK.out _ _ H45.out.1 (fun hS => ?_)
    clear hK K hk5 t0 t1 t2 ft0 ft1 ft2 HB4' HB' HP4 HL4 HW4 HBB
    generalize w4.setCell ⟨b, 2, none⟩ (.slice e2 (nw + 1) f2) = w5 at H45 HB5 HP5 HL5 HW5 HBB5 hS ⊢
    refine wpAnyH_done (by kernel_rfl) ?_ _
    go_simp
    have p1 := HB5.out.1.2.1
    go_wp2_with fail
    refine (deleteSettled_is w.heap.size (fun x => Blk4 x w.heap.size (.int .i64 x0) (.int .i64 x1) (.int .i64 x2) (.int .i64 x3)) (goneL x0 x2) (fun x n0 n1 n2 n3 n4 hx => (settled_is n0 n1 n2 n3 n4 x0 x1 x2 x3 _ x hx).mono (fun e x' ⟨he, hx'⟩ => ⟨he, by rw [hx']; exact below_alloc _ _⟩)) (fun _ _ hx hb => hx.later hb) B nl l _ w5 HL5.out hl H45.out (fun x x' q hq hx hgx => hx.kept (hgx.block _ hx.lt (fun e => by have := (hOL.out q hq).2; cases e; omega)))).mono ?_
    rintro e w6 ⟨v1, rfl, ⟨ho1, hob1⟩, hg6, _⟩
    obtain ⟨e1, f1, rfl⟩ := ho1.form
    have hk6 : ∀ i, i < w5.heap.size → (∀ q, (Value.slice b1 nl d1).ownBlock = some q → i ≠ q) → w6.heap[i]? = w5.heap[i]? := fun i h1 h2 => hg6.block i h1 (fun e => h2 i e.symm rfl)
    have HB6 : Hid (Blk3 w6 b (.map (some g)) (.slice b1 nl d1) (.slice e2 (nw + 1) f2)) := HB5.out.kept (hk6 b HB5.out.lt (fun q hq e => (HA.out.2.1 q hq).1 e.symm))
    have HP6 : Hid (PM w6 g N m) := HP5.out.kept (hk6 g HP5.out.lt (fun q hq e => (HA.out.2.1 q hq).2 e.symm))
    have hun : Hid (∀ q, (Value.slice b1 nl d1).ownBlock = some q → (Value.slice e2 (nw + 1) f2).ownBlock ≠ some q) := fun q hq e => (HA4.out q e).elim (HA.out.2.2.2 q hq) (fun h => by have := (hOL.out q hq).2; omega)
    have HW6 : Hid (Own w6 B 92 4 (nw + 1) (insF k 4 nw at_ [x0, x1, x2, x3]) (.slice e2 (nw + 1) f2)) := HW5.out.kept (fun j hj => hk6 j (own_in HW5.out j hj).2 (fun q hq e => hun.out q hq (by rw [hj, e])))
    have HL6 : Hid (Own w6 B 57 5 (unlL l x0 x2 nl).length (fun p => (unlL l x0 x2 nl).flatten.getD p 0) (.slice e1 (unlL l x0 x2 nl).length f1)) := ho1
    have HOB : Hid ((Value.slice e1 (unlL l x0 x2 nl).length f1).ownBlock = (Value.slice b1 nl d1).ownBlock) := hob1
    have HBB6 : Hid (Below B w w6) := HBB5.out.trans ⟨hg6.os, hg6.tape, hg6.output, hg6.size, fun i hi => hk6 i (by have := hBb.out; have := HBB5.out.size; omega) (fun q hq e => by have := (hOL.out q hq).1; omega)⟩
    obtain ⟨⟨t0, t1, t2⟩, ft0, ft1, ft2⟩ := HB6.out
    have hfin : Hid ((∃ q u1' u2', placeAt (aheadW k x0 x1) nw q ∧ Cols (w6.setCell ⟨b, 1, none⟩ (.slice e1 (unlL l x0 x2 nl).length f1)) B b N m (unlL l x0 x2 nl).length (fun p => (unlL l x0 x2 nl).flatten.getD p 0) (nw + 1) (insF k 4 nw q [x0, x1, x2, x3]) g u1' u2' ∧ ApartC b g u1' u2') ∧ Below B w (w6.setCell ⟨b, 1, none⟩ (.slice e1 (unlL l x0 x2 nl).length f1))) := by
      have hk7 : ∀ i, i ≠ b → (w6.setCell ⟨b, 1, none⟩ (.slice e1 (unlL l x0 x2 nl).length f1)).heap[i]? = w6.heap[i]? := fun i hi => Below.heap_setCell w6 ⟨b, 1, none⟩ _ i hi
      have hlb : ∀ q, (Value.slice e1 (unlL l x0 x2 nl).length f1).ownBlock = some q → q ≠ b ∧ q ≠ g := fun q hq => HA.out.2.1 q (HOB.out ▸ hq)
      exact ⟨⟨at_, _, _, HP.out, ⟨hBb.out.1, hBb.out.2, HB6.out.set1 _, HP6.out.kept (hk7 _ HA.out.1), HL6.out.kept (fun j hj => hk7 j (hlb j hj).1), HW6.out.kept (fun j hj => hk7 j (hub.out j hj).1)⟩, ⟨HA.out.1, hlb, hub.out, fun q hq => hun.out q (HOB.out ▸ hq)⟩⟩, HBB6.out.setCell hBb.out.1 _⟩
    obtain ⟨LEN, hLEN⟩ : ∃ LEN, LEN = (unlL l x0 x2 nl).length := ⟨_, rfl⟩
    have hLE' : (selD l 5 (goneL x0 x2) nl).length = LEN := hLEN.symm
    rw [hLE']
    have hfin' : Hid (POST (w6.setCell ⟨b, 1, none⟩ (.slice e1 (unlL l x0 x2 nl).length f1))) := HPO.out _ hfin.out
    rw [← hLEN] at hfin'
    clear hfin HPO hLEN
    clear HB6 HP6 HW6 HL6 HOB HBB6 hk6 hg6 ho1 hob1 H45 HB5 HP5 HL5 HW5 HBB5 hun hub hS HA4 hLE'
    go_wp2
    go_ret
    exact ⟨rfl, hfin'.out⟩
  · go_simp
    refine hK.out _ _ SY.out (fun hS => ?_)
    clear hK K
    refine wpAnyH_ready (rs := [4]) (by kernel_rfl) (by simp) ?_
    refine AllReadyH.cons rfl (fun K hK => ?_) AllReadyH.nil
    have p2' := (HY.out.cell (p := ⟨b, 2, none⟩) (lt_cell p2)).trans p2
    go_simp
    refine hK.out _ _ hS (fun hS => ?_)
    clear hK K p2'
    refine wpAnyH_ready (rs := [8]) (by kernel_rfl) (by simp) ?_
    refine AllReadyH.cons rfl (fun K hK => ?_) AllReadyH.nil
    go_simp
    go_wp2_with fail
    refine HI.out.mono ?_
    rintro e w4 ⟨e2, f2, rfl, O4, G4, A4⟩
    have hk4 : ∀ i, i < w1.heap.size → (∀ q, (Value.slice b2 nw d2).ownBlock = some q → i ≠ q) → w4.heap[i]? = w1.heap[i]? := fun i h1 h2 => (G4.block i (Nat.lt_of_lt_of_le h1 HY.out.size) (fun e => h2 i e.symm rfl)).trans (HY.out.block i h1)
    have HB4' : Hid (Blk4 w4 w.heap.size (.int .i64 x0) (.int .i64 x1) (.int .i64 x2) (.int .i64 x3)) := HB4.out.kept (hk4 _ HB4.out.lt (fun q hq e => by have := (hOI.out q hq).2; omega))
    have HB' : Hid (Blk3 w4 b (.map (some g)) (.slice b1 nl d1) (.slice b2 nw d2)) := HC.out.2.2.1.kept (hk4 _ HC.out.2.2.1.lt (fun q hq e => (HA.out.2.2.1 q hq).1 e.symm))
    have HP4 : Hid (PM w4 g N m) := HC.out.2.2.2.1.kept (hk4 _ HC.out.2.2.2.1.lt (fun q hq e => (HA.out.2.2.1 q hq).2 e.symm))
    have HL4 : Hid (Own w4 B 57 5 nl l (.slice b1 nl d1)) := HC.out.2.2.2.2.1.kept (fun j hj => hk4 j (own_in HC.out.2.2.2.2.1 j hj).2 (fun q hq e => HA.out.2.2.2 j hj (by rw [hq, e])))
    have HW4 : Hid (Own w4 B 92 4 (nw + 1) (insF k 4 nw at_ [x0, x1, x2, x3]) (.slice e2 (nw + 1) f2)) := O4
    have HA4 : Hid (∀ q, (Value.slice e2 (nw + 1) f2).ownBlock = some q → (Value.slice b2 nw d2).ownBlock = some q ∨ w.heap.size < q) := fun q hq => (A4 q hq).imp id (fun h => by have := HY.out.size; have := hzl.out; omega)
    have HBB : Hid (Below B w w4) := ⟨G4.os.trans (HY.out.os.trans HBW.out.os), G4.tape.trans (HY.out.tape.trans HBW.out.tape), G4.output.trans (HY.out.output.trans HBW.out.output), Nat.le_trans HBW.out.size (Nat.le_trans HY.out.size G4.size), fun i hi => (hk4 i (by have := hBb.out; have := hzl.out; omega) (fun q hq e => by have := (hOI.out q hq).1; omega)).trans (HBW.out.block i (by have := hBb.out; omega))⟩
    have S4 := HB4'.out.1
    clear O4 G4 A4 hk4 HC HB4 HBW HI HY SY hS p2 y0 y1 y2 y3
    go_wp2_with fail
    refine hK.out _ _ S4 (fun hS => ?_)
    clear hK K S4
    refine wpAnyH_take (i := 9) (v := ?_) rfl (by kernel_rfl) (by kernel_rfl) (by kernel_rfl) (fun _ _ _ h => h) (Or.inl ⟨by kernel_rfl, ?_⟩) hS ?_
    rotate_left
    · intro wx hx
      obtain ⟨hx0, hx1, hx2, hx3⟩ := hx
      go_simp
      try with_reducible rfl
    refine wpAnyH_take (i := 10) (v := ?_) rfl (by kernel_rfl) (by kernel_rfl) (by kernel_rfl) (fun _ _ _ h => h) (Or.inl ⟨by kernel_rfl, ?_⟩) hS ?_
    rotate_left
    · intro wx hx
      obtain ⟨hx0, hx1, hx2, hx3⟩ := hx
      go_simp
      try with_reducible rfl
    obtain ⟨⟨t0, t1, t2⟩, ft0, ft1, ft2⟩ := HB'.out
    refine wpAnyH_ready (rs := [11]) (by kernel_rfl) (by simp) ?_
    refine AllReadyH.cons rfl (fun K hK => ?_) AllReadyH.nil
    go_simp
    have hk5 : ∀ i, i ≠ b → (w4.setCell ⟨b, 2, none⟩ (.slice e2 (nw + 1) f2)).heap[i]? = w4.heap[i]? := fun i hi => Below.heap_setCell w4 ⟨b, 2, none⟩ _ i hi
    have H45 : Hid (Blk4 (w4.setCell ⟨b, 2, none⟩ (.slice e2 (nw + 1) f2)) w.heap.size (.int .i64 x0) (.int .i64 x1) (.int .i64 x2) (.int .i64 x3)) := HB4'.out.kept (hk5 _ (by omega))
    have HB5 : Hid (Blk3 (w4.setCell ⟨b, 2, none⟩ (.slice e2 (nw + 1) f2)) b (.map (some g)) (.slice b1 nl d1) (.slice e2 (nw + 1) f2)) := HB'.out.set2 _
    have HP5 : Hid (PM (w4.setCell ⟨b, 2, none⟩ (.slice e2 (nw + 1) f2)) g N m) := HP4.out.kept (hk5 _ HA.out.1)
    have HL5 : Hid (Own (w4.setCell ⟨b, 2, none⟩ (.slice e2 (nw + 1) f2)) B 57 5 nl l (.slice b1 nl d1)) := HL4.out.kept (fun j hj => hk5 j (HA.out.2.1 j hj).1)
    have hub : Hid (∀ q, (Value.slice e2 (nw + 1) f2).ownBlock = some q → q ≠ b ∧ q ≠ g) := fun q hq => (HA4.out q hq).elim (fun h => HA.out.2.2.1 q h) (fun h => ⟨by omega, by omega⟩)
    have HW5 : Hid (Own (w4.setCell ⟨b, 2, none⟩ (.slice e2 (nw + 1) f2)) B 92 4 (nw + 1) (insF k 4 nw at_ [x0, x1, x2, x3]) (.slice e2 (nw + 1) f2)) := HW4.out.kept (fun j hj => hk5 j (hub.out j hj).1)
    have HBB5 : Hid (Below B w (w4.setCell ⟨b, 2, none⟩ (.slice e2 (nw + 1) f2))) := HBB.out.setCell hBb.out.1 _
    refine hK.out _ _ H45.out.1 (fun hS => ?_)
    clear hK K hk5 t0 t1 t2 ft0 ft1 ft2 HB4' HB' HP4 HL4 HW4 HBB
    generalize w4.setCell ⟨b, 2, none⟩ (.slice e2 (nw + 1) f2) = w5 at H45 HB5 HP5 HL5 HW5 HBB5 hS ⊢
    refine wpAnyH_done (by kernel_rfl) ?_ _
    go_simp
    have p1 := HB5.out.1.2.1
    go_wp2_with fail
    refine (deleteSettled_is w.heap.size (fun x => Blk4 x w.heap.size (.int .i64 x0) (.int .i64 x1) (.int .i64 x2) (.int .i64 x3)) (goneL x0 x2) (fun x n0 n1 n2 n3 n4 hx => (settled_is n0 n1 n2 n3 n4 x0 x1 x2 x3 _ x hx).mono (fun e x' ⟨he, hx'⟩ => ⟨he, by rw [hx']; exact below_alloc _ _⟩)) (fun _ _ hx hb => hx.later hb) B nl l _ w5 HL5.out hl H45.out (fun x x' q hq hx hgx => hx.kept (hgx.block _ hx.lt (fun e => by have := (hOL.out q hq).2; cases e; omega)))).mono ?_
    rintro e w6 ⟨v1, rfl, ⟨ho1, hob1⟩, hg6, _⟩
    obtain ⟨e1, f1, rfl⟩ := ho1.form
    have hk6 : ∀ i, i < w5.heap.size → (∀ q, (Value.slice b1 nl d1).ownBlock = some q → i ≠ q) → w6.heap[i]? = w5.heap[i]? := fun i h1 h2 => hg6.block i h1 (fun e => h2 i e.symm rfl)
    have HB6 : Hid (Blk3 w6 b (.map (some g)) (.slice b1 nl d1) (.slice e2 (nw + 1) f2)) := HB5.out.kept (hk6 b HB5.out.lt (fun q hq e => (HA.out.2.1 q hq).1 e.symm))
    have HP6 : Hid (PM w6 g N m) := HP5.out.kept (hk6 g HP5.out.lt (fun q hq e => (HA.out.2.1 q hq).2 e.symm))
    have hun : Hid (∀ q, (Value.slice b1 nl d1).ownBlock = some q → (Value.slice e2 (nw + 1) f2).ownBlock ≠ some q) := fun q hq e => (HA4.out q e).elim (HA.out.2.2.2 q hq) (fun h => by have := (hOL.out q hq).2; omega)
    have HW6 : Hid (Own w6 B 92 4 (nw + 1) (insF k 4 nw at_ [x0, x1, x2, x3]) (.slice e2 (nw + 1) f2)) := HW5.out.kept (fun j hj => hk6 j (own_in HW5.out j hj).2 (fun q hq e => hun.out q hq (by rw [hj, e])))
    have HL6 : Hid (Own w6 B 57 5 (unlL l x0 x2 nl).length (fun p => (unlL l x0 x2 nl).flatten.getD p 0) (.slice e1 (unlL l x0 x2 nl).length f1)) := ho1
    have HOB : Hid ((Value.slice e1 (unlL l x0 x2 nl).length f1).ownBlock = (Value.slice b1 nl d1).ownBlock) := hob1
    have HBB6 : Hid (Below B w w6) := HBB5.out.trans ⟨hg6.os, hg6.tape, hg6.output, hg6.size, fun i hi => hk6 i (by have := hBb.out; have := HBB5.out.size; omega) (fun q hq e => by have := (hOL.out q hq).1; omega)⟩
    obtain ⟨⟨t0, t1, t2⟩, ft0, ft1, ft2⟩ := HB6.out
    have hfin : Hid ((∃ q u1' u2', placeAt (aheadW k x0 x1) nw q ∧ Cols (w6.setCell ⟨b, 1, none⟩ (.slice e1 (unlL l x0 x2 nl).length f1)) B b N m (unlL l x0 x2 nl).length (fun p => (unlL l x0 x2 nl).flatten.getD p 0) (nw + 1) (insF k 4 nw q [x0, x1, x2, x3]) g u1' u2' ∧ ApartC b g u1' u2') ∧ Below B w (w6.setCell ⟨b, 1, none⟩ (.slice e1 (unlL l x0 x2 nl).length f1))) := by
      have hk7 : ∀ i, i ≠ b → (w6.setCell ⟨b, 1, none⟩ (.slice e1 (unlL l x0 x2 nl).length f1)).heap[i]? = w6.heap[i]? := fun i hi => Below.heap_setCell w6 ⟨b, 1, none⟩ _ i hi
      have hlb : ∀ q, (Value.slice e1 (unlL l x0 x2 nl).length f1).ownBlock = some q → q ≠ b ∧ q ≠ g := fun q hq => HA.out.2.1 q (HOB.out ▸ hq)
      exact ⟨⟨at_, _, _, HP.out, ⟨hBb.out.1, hBb.out.2, HB6.out.set1 _, HP6.out.kept (hk7 _ HA.out.1), HL6.out.kept (fun j hj => hk7 j (hlb j hj).1), HW6.out.kept (fun j hj => hk7 j (hub.out j hj).1)⟩, ⟨HA.out.1, hlb, hub.out, fun q hq => hun.out q (HOB.out ▸ hq)⟩⟩, HBB6.out.setCell hBb.out.1 _⟩
    obtain ⟨LEN, hLEN⟩ : ∃ LEN, LEN = (unlL l x0 x2 nl).length := ⟨_, rfl⟩
    have hLE' : (selD l 5 (goneL x0 x2) nl).length = LEN := hLEN.symm
    rw [hLE']
    have hfin' : Hid (POST (w6.setCell ⟨b, 1, none⟩ (.slice e1 (unlL l x0 x2 nl).length f1))) := HPO.out _ hfin.out
    rw [← hLEN] at hfin'
    clear hfin HPO hLEN
    clear HB6 HP6 HW6 HL6 HOB HBB6 hk6 hg6 ho1 hob1 H45 HB5 HP5 HL5 HW5 HBB5 hun hub hS HA4 hLE'
    go_wp2
    go_ret
    exact ⟨rfl, hfin'.out⟩
end
end Go.Proofs.YtnkdphdpecgmiaaGreatDoor
