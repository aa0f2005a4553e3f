/-
  Own text. slices.IndexFunc and slices.DeleteFunc over rows of structs, under what the closure tells.
-/
import Derived.Test.YtpakmdihbfegeaaGreatDoorDelA
import Derived.Test.YtpakmdihbfegeaaGreatDoorColsI
namespace Go.Proofs.YtpakmdihbfegeaaGreatDoor
open Go.RowKit Go.Sort Go.Shelf Go.Lib

theorem Own.congr {x : World} {B : Nat} {e : TypeId} {m n : Nat} {F G : Nat → Int} {v : Value} (h : Own x B e m n F v) (hF : ∀ p, p < n * m → F p = G p) : Own x B e m n G v := by
  have hv : vals F (n * m) = vals G (n * m) := by
    unfold vals
    refine List.map_congr_left (fun p hp => ?_)
    rw [hF p (List.mem_range.1 hp)]
  unfold Own at *
  rw [← hv]
  exact h
/-- A row under way: the kept structs L stand first, from number j on it is as it was. -/
def Mid (x : World) (g : Nat) (e : TypeId) (m n cap : Nat) (F : Nat → Int) (L : List (List Int)) (j : Nat) : Prop :=
  Blkk x g e (cap * m) ∧ (∀ p, p < L.length * m → x.cell? ⟨g, p, none⟩ = some (.int .i64 (L.flatten.getD p 0))) ∧ ∀ p, j * m ≤ p → p < n * m → x.cell? ⟨g, p, none⟩ = some (.int .i64 (F p))
theorem Mid.kept {x x' : World} {g : Nat} {e : TypeId} {m n cap : Nat} {F : Nat → Int} {L : List (List Int)} {j : Nat} (h : Mid x g e m n cap F L j) (hb : x'.heap[g]? = x.heap[g]?) : Mid x' g e m n cap F L j :=
  ⟨h.1.kept hb, fun p hp => (World.cell?_of_block (w := x) (a := ⟨g, p, none⟩) hb).trans (h.2.1 p hp), fun p h1 h2 => (World.cell?_of_block (w := x) (a := ⟨g, p, none⟩) hb).trans (h.2.2 p h1 h2)⟩
theorem Mid.later {x x' : World} {g : Nat} {e : TypeId} {m n cap : Nat} {F : Nat → Int} {L : List (List Int)} {j : Nat} (h : Mid x g e m n cap F L j) (hb : Below x.heap.size x x') : Mid x' g e m n cap F L j := h.kept (hb.block g h.1.lt)
theorem Mid.skip {x : World} {g : Nat} {e : TypeId} {m n cap : Nat} {F : Nat → Int} {L : List (List Int)} {j : Nat} (h : Mid x g e m n cap F L j) : Mid x g e m n cap F L (j + 1) := ⟨h.1, h.2.1, fun p h1 h2 => h.2.2 p (by rw [Nat.succ_mul] at h1; omega) h2⟩
theorem Mid.put {x : World} {g : Nat} {e : TypeId} {m n cap : Nat} {F : Nat → Int} {L : List (List Int)} {j : Nat} (h : Mid x g e m n cap F L j) (hL : ∀ t ∈ L, t.length = m) (t : List Int) (ht : t.length = m) (hj : L.length ≤ j) (hjn : j < n) (hn : n ≤ cap) : Mid (x.setCells g (L.length * m) (t.map (Value.int .i64))) g e m n cap F (L ++ [t]) (j + 1) := by
  have hle : (L.length + 1) * m ≤ cap * m := Nat.mul_le_mul_right m (by omega)
  have hlj : (L.length + 1) * m ≤ (j + 1) * m := Nat.mul_le_mul_right m (by omega)
  have hsm : (L.length + 1) * m = L.length * m + m := Nat.succ_mul _ _
  have hfl := flat_len L hL
  refine ⟨h.1.sets _ _ _, fun p hp => ?_, fun p h1 h2 => ?_⟩
  · rw [List.length_append, List.length_singleton, hsm] at hp
    rw [List.flatten_append]
    rcases Nat.lt_or_ge p (L.length * m) with q | q
    · rw [World.cell?_setCells_out g _ _ _ _ (fun _ _ => Or.inl q), h.2.1 p q]
      simp [List.getElem?_append, hfl, q]
    · obtain ⟨r, rfl⟩ : ∃ r, p = L.length * m + r := ⟨p - L.length * m, by omega⟩
      have hr : r < t.length := by omega
      rw [World.cell?_setCells_in g (t.map (Value.int .i64)) (L.length * m) x (fun q hq => by
        have hq' : q < m := by simpa [ht] using hq
        obtain ⟨u, hu⟩ := (h.1.cell (p := L.length * m + q) (by omega)).1
        rw [hu]; rfl) r (by simpa using hr)]
      simp [hfl, hr]
  · rw [World.cell?_setCells_out g _ _ _ _ (fun _ _ => Or.inr (by simp [ht]; omega))]
    exact h.2.2 p (by rw [Nat.succ_mul] at h1; omega) h2
set_option maxRecDepth 100000 in
set_option maxHeartbeats 4000000 in
theorem indexSwept_is (bc bd : Nat) (E : World → Prop) (D : List Int → Bool) (hdel : ∀ (x : World) (n0 n1 n2 n3 : Int), E x → Calls Tryz.prog 126 #[.agg #[.int .i64 n0, .int .i64 n1, .int .i64 n2, .int .i64 n3], .pointer (some ⟨bc, 0, none⟩), .pointer (some ⟨bd, 0, none⟩)] x fun e x' => e = .returned (.bool (D [n0, n1, n2, n3])) ∧ Below x.heap.size x x') (hE0 : ∀ x x', E x → Below x.heap.size x x' → E x') (B n : Nat) (F : Nat → Int) (v : Value) (w : World) (h : Row w B 4 n F v) (hn : n ≤ 1048576) (hw : E w) :
    Calls Tryz.prog 125 #[v, .func (.func 126) #[] #[.pointer (some ⟨bc, 0, none⟩), .pointer (some ⟨bd, 0, none⟩)]] w fun e w' => ∃ r : Int, e = .returned (.int .i64 r) ∧ FirstAt (fun i => D (struD F 4 i) = true) n r ∧ Below w.heap.size w w' := by
  obtain ⟨ao, cp, rfl⟩ := h.form
  have H : Hid (Row w B 4 n F (.slice ao n cp)) := h
  have HC : Hid (∀ (x : World) (n0 n1 n2 n3 : Int), E x → Calls Tryz.prog 126 #[.agg #[.int .i64 n0, .int .i64 n1, .int .i64 n2, .int .i64 n3], .pointer (some ⟨bc, 0, none⟩), .pointer (some ⟨bd, 0, none⟩)] x fun e x' => e = .returned (.bool (D [n0, n1, n2, n3])) ∧ Below x.heap.size x x') := hdel
  have HE : Hid (∀ x x', E x → Below x.heap.size x x' → E x') := hE0
  have HW : Hid (E w) := hw
  clear h hdel hE0 hw
  go_enter Tryz.func125, Tryz.ntmps125
  go_wp2
  go_loopw [8] (fun i wr => ∃ k : Nat, k ≤ n ∧ i = .int .i64 k ∧ Hid (∀ j, j < k → D (struD F 4 j) = false) ∧ Hid (Below w.heap.size w wr)) (fun i _ => n - (intOf i).toNat)
  case atStart => exact ⟨0, Nat.zero_le _, rfl, fun j hj => absurd hj (Nat.not_lt_zero j), Below.refl _ _⟩
  case round =>
    obtain ⟨k, hk, rfl, HS, HB⟩ := hrel
    by_cases hlt : k < n
    case neg =>
      obtain rfl : n = k := by omega
      go_wp2
      go_ret
      exact ⟨-1, rfl, Or.inl ⟨rfl, fun i hi e => Bool.false_ne_true ((HS.out i hi).symm.trans e)⟩, HB.out⟩
    obtain ⟨g, o, rfl, _, hg, x0, x1, x2, x3⟩ := (H.out.later HB.out).at4 hlt
    obtain ⟨n0, N0⟩ : ∃ x, F (k * 4) = x := ⟨_, rfl⟩
    rw [N0] at x0
    obtain ⟨n1, N1⟩ : ∃ x, F (k * 4 + 1) = x := ⟨_, rfl⟩
    rw [N1] at x1
    obtain ⟨n2, N2⟩ : ∃ x, F (k * 4 + 2) = x := ⟨_, rfl⟩
    rw [N2] at x2
    obtain ⟨n3, N3⟩ : ∃ x, F (k * 4 + 3) = x := ⟨_, rfl⟩
    rw [N3] at x3
    have HD : Hid (struD F 4 k = [n0, n1, n2, n3]) := by
      unfold Hid
      rw [← N0, ← N1, ← N2, ← N3]
      rfl
    obtain ⟨r, hr⟩ : ∃ r, D [n0, n1, n2, n3] = r := ⟨_, rfl⟩
    have HR : Hid (D [n0, n1, n2, n3] = r) := hr
    clear N0 N1 N2 N3 hr
    cases r with
    | true =>
      go_wp2_with fail
      refine (HC.out _ n0 n1 n2 n3 (HE.out _ _ HW.out HB.out)).mono ?_
      rw [HR.out]
      rintro e w1 ⟨rfl, q1⟩
      have HB1 : Hid (Below w.heap.size w w1) := HB.out.trans (q1.mono HB.out.size)
      clear q1
      go_wp2
      go_ret
      exact ⟨k, rfl, Or.inr ⟨k, hlt, rfl, (congrArg D HD.out).trans HR.out, fun j hj e => Bool.false_ne_true ((HS.out j hj).symm.trans e)⟩, HB1.out⟩
    | false =>
      have HS1 : Hid (∀ j, j < k + 1 → D (struD F 4 j) = false) := fun j hj => by
        rcases Nat.lt_or_ge j k with e | e
        · exact HS.out j e
        · obtain rfl : j = k := by omega
          rw [HD.out]; exact HR.out
      go_wp2_with fail
      refine (HC.out _ n0 n1 n2 n3 (HE.out _ _ HW.out HB.out)).mono ?_
      rw [HR.out]
      rintro e w1 ⟨rfl, q1⟩
      have HB1 : Hid (Below w.heap.size w w1) := HB.out.trans (q1.mono HB.out.size)
      clear q1 HS HD HR HB
      go_wp2
      go_roundw
      case rel => exact ⟨k + 1, by omega, by go_num, HS1, HB1⟩
      case measure => simp [intOf]; omega
theorem zeroSwept (w : World) : (zeroValue 97).run Tryz.prog w = .ok (.agg #[.int .i64 0, .int .i64 0, .int .i64 0, .int .i64 0]) w := by kernel_rfl
set_option maxRecDepth 100000 in
set_option maxHeartbeats 8000000 in
theorem deleteSwept_is (bc bd : Nat) (E : World → Prop) (D : List Int → Bool) (hdel : ∀ (x : World) (n0 n1 n2 n3 : Int), E x → Calls Tryz.prog 126 #[.agg #[.int .i64 n0, .int .i64 n1, .int .i64 n2, .int .i64 n3], .pointer (some ⟨bc, 0, none⟩), .pointer (some ⟨bd, 0, none⟩)] x fun e x' => e = .returned (.bool (D [n0, n1, n2, n3])) ∧ Below x.heap.size x x') (hE0 : ∀ x x', E x → Below x.heap.size x x' → E x') (B n : Nat) (F : Nat → Int) (v : Value) (w : World) (h : Own w B 97 4 n F v) (hn : n ≤ 200) (hw : E w) (hE1 : ∀ x x' q, v.ownBlock = some q → E x → x.grownBy x' (some q) → E x') :
    Calls Tryz.prog 106 #[v, .func (.func 126) #[] #[.pointer (some ⟨bc, 0, none⟩), .pointer (some ⟨bd, 0, none⟩)]] w fun e w' => ∃ v', e = .returned v' ∧ (Own w' B 97 4 (selD F 4 D n).length (fun p => (selD F 4 D n).flatten.getD p 0) v' ∧ v'.ownBlock = v.ownBlock) ∧ w.grownBy w' v.ownBlock ∧ E w' := by
  have HX := indexSwept_is bc bd E D hdel hE0 B n F v w h.row.1 (by omega) hw
  have HC : Hid (∀ (x : World) (n0 n1 n2 n3 : Int), E x → Calls Tryz.prog 126 #[.agg #[.int .i64 n0, .int .i64 n1, .int .i64 n2, .int .i64 n3], .pointer (some ⟨bc, 0, none⟩), .pointer (some ⟨bd, 0, none⟩)] x fun e x' => e = .returned (.bool (D [n0, n1, n2, n3])) ∧ Below x.heap.size x x') := hdel
  have HE0 : Hid (∀ x x', E x → Below x.heap.size x x' → E x') := hE0
  have HW : Hid (E w) := hw
  have HO : Hid (Own w B 97 4 n F v) := h
  obtain ⟨r, hr⟩ := FirstAt.get (fun i => D (struD F 4 i) = true) n
  have one : ∀ r', FirstAt (fun i => D (struD F 4 i) = true) n r' → r' = r := fun r' h' => by
    rcases h' with ⟨rfl, a⟩ | ⟨i, h1, rfl, h2, h3⟩
    · rcases hr with ⟨rfl, _⟩ | ⟨j, g1, rfl, g2, g3⟩
      · rfl
      · exact absurd g2 (a j g1)
    · rcases hr with ⟨rfl, a⟩ | ⟨j, g1, rfl, g2, g3⟩
      · exact absurd h2 (a i h1)
      · rcases Nat.lt_trichotomy i j with q | q | q
        · exact absurd h2 (g3 i q)
        · rw [q]
        · exact absurd g2 (h3 j q)
  have HXr : Hid (Calls Tryz.prog 125 #[v, .func (.func 126) #[] #[.pointer (some ⟨bc, 0, none⟩), .pointer (some ⟨bd, 0, none⟩)]] w fun e w' => e = .returned (.int .i64 r) ∧ Below w.heap.size w w') := HX.mono fun e w' ⟨r', he, hf, hb⟩ => ⟨by rw [he, one r' hf], hb⟩
  clear HX one hdel hE0 hw
  rcases hr with ⟨rfl, hno⟩ | ⟨i0, hi0, rfl, hp0, hf0⟩
  · have HS : Hid (Own w B 97 4 (selD F 4 D n).length (fun p => (selD F 4 D n).flatten.getD p 0) v) := by
      have hs := selD_same (F := F) (m := 4) (D := D) (k := n) (fun i hi => by cases e : D (struD F 4 i) with | false => rfl | true => exact absurd e (hno i hi))
      unfold Hid
      rw [hs.1]
      exact h.congr (fun p hp => (hs.2 p hp).symm)
    obtain ⟨ao, cp, rfl⟩ := h.form
    clear h hno hE1 HO
    go_enter Tryz.func106, Tryz.ntmps106
    go_wp2_with fail
    refine HXr.out.mono ?_
    rintro e w1 ⟨rfl, q1⟩
    have Q : Hid (((Own w1 B 97 4 (selD F 4 D n).length (fun p => (selD F 4 D n).flatten.getD p 0) (.slice ao n cp)) ∧ w.grownBy w1 (Value.slice ao n cp).ownBlock) ∧ E w1) := ⟨⟨HS.out.later q1, ⟨q1.os, q1.tape, q1.output, q1.size, fun i hi _ => q1.block i hi⟩⟩, HE0.out _ _ HW.out q1⟩
    clear q1
    go_wp2
    go_ret
    exact ⟨_, rfl, ⟨Q.out.1.1, rfl⟩, Q.out.1.2, Q.out.2⟩
  · rcases h.parts with ⟨_, e⟩ | ⟨g, cap, rfl, hB, hnc, hcm, hbk, hcell⟩
    · omega
    have HB : Hid (B ≤ g) := hB
    have HE1 : Hid (∀ x x', E x → x.grownBy x' (some g) → E x') := fun x x' => hE1 x x' g rfl
    have hsame := selD_same (F := F) (m := 4) (D := D) (k := i0) (fun i hi => by cases e : D (struD F 4 i) with | false => rfl | true => exact absurd e (hf0 i hi))
    have hgone := selD_gone (F := F) (m := 4) (D := D) (k := i0) hp0
    have HM0 : Hid (Mid w g 97 4 n cap F (selD F 4 D (i0 + 1)) (i0 + 1)) := by
      unfold Hid
      rw [hgone]
      refine ⟨hbk, fun p hp => ?_, fun p _ h2 => hcell p h2⟩
      rw [hsame.1] at hp
      have hlt : i0 * 4 ≤ n * 4 := Nat.mul_le_mul_right 4 (by omega)
      rw [hsame.2 p hp]
      exact hcell p (by omega)
    have hlen0 : (selD F 4 D (i0 + 1)).length = i0 := by rw [hgone]; exact hsame.1
    have hmax : cap ≤ 9223372036854775807 := by unfold maxLen at hcm; omega
    have hcmH : Hid (cap ≤ maxLen) := hcm
    clear h hp0 hf0 hE1 hB hbk hcell hsame hgone HO hcm
    go_enter Tryz.func106, Tryz.ntmps106
    go_wp2_with fail
    refine HXr.out.mono ?_
    rintro e w1 ⟨rfl, q1⟩
    have HM1 : Hid (Mid w1 g 97 4 n cap F (selD F 4 D (i0 + 1)) (i0 + 1)) := HM0.out.later q1
    have HG1 : Hid (w.grownBy w1 (some g)) := ⟨q1.os, q1.tape, q1.output, q1.size, fun i hi _ => q1.block i hi⟩
    have HW1 : Hid (E w1) := HE0.out _ _ HW.out q1
    have d0 : (((i0 : Nat) : Int) == -1) = false := beq_eq_false_iff_ne.2 (by omega)
    have ew : IntKind.i64.wrap ((i0 : Int) + 1) = (i0 : Int) + 1 := by
      simp [IntKind.wrap, IntKind.bits, IntKind.signed]
      omega
    clear q1 HM0 HW
    go_wp2
    go_loopw [5, 6] (fun i j wr => ∃ k : Nat, i0 + 1 ≤ k ∧ k ≤ n ∧ j = .int .i64 k ∧ i = .int .i64 ((selD F 4 D k).length : Nat) ∧ Hid ((Mid wr g 97 4 n cap F (selD F 4 D k) k ∧ (selD F 4 D k).length < k) ∧ w.grownBy wr (some g) ∧ E wr)) (fun _ j _ => n - (intOf j).toNat)
    case atStart => exact ⟨i0 + 1, Nat.le_refl _, by omega, rfl, by rw [hlen0], ⟨HM1.out, by omega⟩, HG1.out, HW1.out⟩
    case round =>
      clear HM1 HG1 HW1 hlen0 ew d0
      obtain ⟨k, hk0, hk, rfl, rfl, HS⟩ := hrel
      obtain ⟨L, hL⟩ : ∃ L, selD F 4 D k = L := ⟨_, rfl⟩
      have HLl : Hid (∀ t ∈ L, t.length = 4) := by unfold Hid; rw [← hL]; exact selD_len F 4 D k
      have HL : Hid (selD F 4 D k = L) := hL
      rw [hL] at HS
      rw [hL]
      have hLk : L.length < k := HS.out.1.2
      clear hL
      by_cases hlt : k < n
      case neg =>
        obtain rfl : n = k := by omega
        have hmul : L.length * 4 + (n - L.length) * 4 ≤ cap * 4 := by
          rw [← Nat.add_mul]
          exact Nat.mul_le_mul_right 4 (by omega)
        obtain ⟨w3, hcl, hM3, hg3⟩ := run_clear_row 30 97 (.agg #[.int .i64 0, .int .i64 0, .int .i64 0, .int .i64 0]) 4 Tryz.underlying30 zeroSwept rfl (by intro v hv; simp [Value.cells] at hv; subst hv; rfl) wr g (L.length * 4) (n - L.length) (cap - L.length) (cap * 4) HS.out.1.1.1 hmul (by omega) (by omega)
        have Q : Hid ((Own w3 B 97 4 (selD F 4 D n).length (fun p => (selD F 4 D n).flatten.getD p 0) (.slice (some ⟨g, 0, none⟩) L.length cap)) ∧ w.grownBy w3 (some g) ∧ E w3) := by
          refine ⟨?_, ⟨hg3.os.trans HS.out.2.1.os, hg3.tape.trans HS.out.2.1.tape, hg3.output.trans HS.out.2.1.output, Nat.le_trans HS.out.2.1.size hg3.size, fun i hi hne => (hg3.block i (Nat.lt_of_lt_of_le hi HS.out.2.1.size) hne).trans (HS.out.2.1.block i hi hne)⟩, HE1.out _ _ HS.out.2.2 hg3⟩
          rw [HL.out]
          exact own_of hM3.1 HB.out (by omega) hcmH.out (fun p hp => (hM3.2 p hp).trans (HS.out.1.1.2.1 p hp))
        have hln : ((L.length : Nat) : Int) ≤ (n : Int) := by omega
        have hlc : ((L.length : Nat) : Int) ≤ (cap : Int) := by omega
        clear hM3 hg3 HS
        go_wp2
        go_ret
        exact ⟨_, rfl, ⟨Q.out.1, rfl⟩, Q.out.2.1, Q.out.2.2⟩
      have x0 := HS.out.1.1.2.2 (k * 4) (by omega) (by omega)
      obtain ⟨n0, N0⟩ : ∃ x, F (k * 4) = x := ⟨_, rfl⟩
      rw [N0] at x0
      have x1 := HS.out.1.1.2.2 (k * 4 + 1) (by omega) (by omega)
      obtain ⟨n1, N1⟩ : ∃ x, F (k * 4 + 1) = x := ⟨_, rfl⟩
      rw [N1] at x1
      have x2 := HS.out.1.1.2.2 (k * 4 + 2) (by omega) (by omega)
      obtain ⟨n2, N2⟩ : ∃ x, F (k * 4 + 2) = x := ⟨_, rfl⟩
      rw [N2] at x2
      have x3 := HS.out.1.1.2.2 (k * 4 + 3) (by omega) (by omega)
      obtain ⟨n3, N3⟩ : ∃ x, F (k * 4 + 3) = x := ⟨_, rfl⟩
      rw [N3] at x3
      have HD : Hid (struD F 4 k = [n0, n1, n2, n3]) := by
        unfold Hid
        rw [← N0, ← N1, ← N2, ← N3]
        rfl
      have hgl : g < wr.heap.size := HS.out.1.1.1.lt
      have HA : Hid (E (wr.alloc (.cells #[.int .i64 n0, .int .i64 n1, .int .i64 n2, .int .i64 n3] 97))) := HE0.out _ _ HS.out.2.2 (below_alloc _ _)
      obtain ⟨r, hr⟩ : ∃ r, D [n0, n1, n2, n3] = r := ⟨_, rfl⟩
      have HR : Hid (D [n0, n1, n2, n3] = r) := hr
      clear N0 N1 N2 N3 hr
      cases r with
      | true =>
        have HN : Hid (selD F 4 D (k + 1) = L) := (selD_gone (by rw [HD.out]; exact HR.out)).trans HL.out
        go_wp2_with fail
        refine (HC.out _ n0 n1 n2 n3 HA.out).mono ?_
        rw [HR.out]
        rintro e w2 ⟨rfl, q2⟩
        have hb2 := (below_alloc wr (.cells #[.int .i64 n0, .int .i64 n1, .int .i64 n2, .int .i64 n3] 97)).trans (q2.mono (by simp))
        have HS2 : Hid ((Mid w2 g 97 4 n cap F (selD F 4 D (k + 1)) (k + 1) ∧ (selD F 4 D (k + 1)).length < k + 1) ∧ w.grownBy w2 (some g) ∧ E w2) := by
          unfold Hid
          rw [HN.out]
          exact ⟨⟨(HS.out.1.1.later hb2).skip, by omega⟩, ⟨hb2.os.trans HS.out.2.1.os, hb2.tape.trans HS.out.2.1.tape, hb2.output.trans HS.out.2.1.output, Nat.le_trans HS.out.2.1.size hb2.size, fun i hi hne => (hb2.block i (Nat.lt_of_lt_of_le hi HS.out.2.1.size)).trans (HS.out.2.1.block i hi hne)⟩, HE0.out _ _ HS.out.2.2 hb2⟩
        have HNl : Hid ((selD F 4 D (k + 1)).length = L.length) := by unfold Hid; rw [HN.out]
        clear q2 hb2 HS HD HR HL HLl HA HN
        go_wp2
        go_roundw
        case rel => exact ⟨k + 1, by omega, by omega, by go_num, by rw [HNl.out], HS2⟩
        case measure => simp [intOf]; omega
      | false =>
        have HN : Hid (selD F 4 D (k + 1) = L ++ [[n0, n1, n2, n3]]) := by
          unfold Hid
          rw [selD_kept (by rw [HD.out]; exact HR.out), HL.out, HD.out]
        go_wp2_with fail
        refine (HC.out _ n0 n1 n2 n3 HA.out).mono ?_
        rw [HR.out]
        rintro e w2 ⟨rfl, q2⟩
        have hb2 := (below_alloc wr (.cells #[.int .i64 n0, .int .i64 n1, .int .i64 n2, .int .i64 n3] 97)).trans (q2.mono (by simp))
        have y0 : w2.cell? ⟨wr.heap.size, 0, none⟩ = some (.int .i64 n0) := (q2.cell (p := ⟨wr.heap.size, 0, none⟩) (by simp)).trans (World.cell?_alloc_mark wr _ _ _ 0)
        have y1 : w2.cell? ⟨wr.heap.size, 1, none⟩ = some (.int .i64 n1) := (q2.cell (p := ⟨wr.heap.size, 1, none⟩) (by simp)).trans (World.cell?_alloc_mark wr _ _ _ 1)
        have y2 : w2.cell? ⟨wr.heap.size, 2, none⟩ = some (.int .i64 n2) := (q2.cell (p := ⟨wr.heap.size, 2, none⟩) (by simp)).trans (World.cell?_alloc_mark wr _ _ _ 2)
        have y3 : w2.cell? ⟨wr.heap.size, 3, none⟩ = some (.int .i64 n3) := (q2.cell (p := ⟨wr.heap.size, 3, none⟩) (by simp)).trans (World.cell?_alloc_mark wr _ _ _ 3)
        have HM2 : Hid (Mid w2 g 97 4 n cap F L k ∧ w.grownBy w2 (some g) ∧ E w2) := ⟨HS.out.1.1.later hb2, ⟨hb2.os.trans HS.out.2.1.os, hb2.tape.trans HS.out.2.1.tape, hb2.output.trans HS.out.2.1.output, Nat.le_trans HS.out.2.1.size hb2.size, fun i hi hne => (hb2.block i (Nat.lt_of_lt_of_le hi HS.out.2.1.size)).trans (HS.out.2.1.block i hi hne)⟩, HE0.out _ _ HS.out.2.2 hb2⟩
        have hmul : (L.length + 1) * 4 ≤ cap * 4 := Nat.mul_le_mul_right 4 (by omega)
        have hsm : (L.length + 1) * 4 = L.length * 4 + 4 := Nat.succ_mul _ _
        obtain ⟨⟨u0, c0⟩, z0⟩ := HM2.out.1.1.cell (p := L.length * 4) (by omega)
        obtain ⟨⟨u1, c1⟩, z1⟩ := HM2.out.1.1.cell (p := L.length * 4 + 1) (by omega)
        obtain ⟨⟨u2, c2⟩, z2⟩ := HM2.out.1.1.cell (p := L.length * 4 + 2) (by omega)
        obtain ⟨⟨u3, c3⟩, z3⟩ := HM2.out.1.1.cell (p := L.length * 4 + 3) (by omega)
        have hch : w2.setCells g (L.length * 4) ([n0, n1, n2, n3].map (Value.int .i64)) = ((((w2.setCell ⟨g, L.length * 4, none⟩ (.int .i64 n0)).setCell ⟨g, L.length * 4 + 1, none⟩ (.int .i64 n1)).setCell ⟨g, L.length * 4 + 2, none⟩ (.int .i64 n2)).setCell ⟨g, L.length * 4 + 3, none⟩ (.int .i64 n3)) := rfl
        have HS2 : Hid ((Mid ((((w2.setCell ⟨g, L.length * 4, none⟩ (.int .i64 n0)).setCell ⟨g, L.length * 4 + 1, none⟩ (.int .i64 n1)).setCell ⟨g, L.length * 4 + 2, none⟩ (.int .i64 n2)).setCell ⟨g, L.length * 4 + 3, none⟩ (.int .i64 n3)) g 97 4 n cap F (selD F 4 D (k + 1)) (k + 1) ∧ (selD F 4 D (k + 1)).length < k + 1) ∧ w.grownBy ((((w2.setCell ⟨g, L.length * 4, none⟩ (.int .i64 n0)).setCell ⟨g, L.length * 4 + 1, none⟩ (.int .i64 n1)).setCell ⟨g, L.length * 4 + 2, none⟩ (.int .i64 n2)).setCell ⟨g, L.length * 4 + 3, none⟩ (.int .i64 n3)) (some g) ∧ E ((((w2.setCell ⟨g, L.length * 4, none⟩ (.int .i64 n0)).setCell ⟨g, L.length * 4 + 1, none⟩ (.int .i64 n1)).setCell ⟨g, L.length * 4 + 2, none⟩ (.int .i64 n2)).setCell ⟨g, L.length * 4 + 3, none⟩ (.int .i64 n3))) := by
          have hgs := grown_sets g ([n0, n1, n2, n3].map (Value.int .i64)) (L.length * 4) w2
          have hmp := HM2.out.1.put HLl.out [n0, n1, n2, n3] rfl (by omega) hlt hnc
          unfold Hid
          rw [← hch, HN.out]
          exact ⟨⟨hmp, by rw [List.length_append, List.length_singleton]; omega⟩, ⟨hgs.os.trans HM2.out.2.1.os, hgs.tape.trans HM2.out.2.1.tape, hgs.output.trans HM2.out.2.1.output, Nat.le_trans HM2.out.2.1.size hgs.size, fun i hi hne => (hgs.block i (Nat.lt_of_lt_of_le hi HM2.out.2.1.size) hne).trans (HM2.out.2.1.block i hi hne)⟩, HE1.out _ _ HM2.out.2.2 hgs⟩
        have HNl : Hid ((selD F 4 D (k + 1)).length = L.length + 1) := by unfold Hid; rw [HN.out, List.length_append, List.length_singleton]
        have hli : ((L.length : Nat) : Int) < (n : Int) := by omega
        have ew : IntKind.i64.wrap (((L.length : Nat) : Int) + 1) = ((L.length : Nat) : Int) + 1 := by
          simp [IntKind.wrap, IntKind.bits, IntKind.signed]
          omega
        clear q2 hb2 HS HD HR HL HLl HA HN hch HM2 hmul hsm
        go_wp2
        go_roundw
        case rel => exact ⟨k + 1, by omega, by omega, by go_num, by rw [HNl.out]; rfl, HS2⟩
        case measure => simp [intOf]; omega
end Go.Proofs.YtpakmdihbfegeaaGreatDoor
