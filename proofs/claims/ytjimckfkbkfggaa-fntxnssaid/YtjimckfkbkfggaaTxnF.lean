/-
  Own text. Chapter 8: the law FnTxns: a transaction has each key that it reads or writes, once; its walk, over whatever is drawn.
-/
import Derived.Test.YtjimckfkbkfggaaDrawT
import Derived.Test.YtjimckfkbkfggaaTxnK
import Derived.Laws.StructEq
namespace Go.Proofs.Ytjimckfkbkfggaa
open Go.RowKit

theorem wR_front (L0 : List Int) (R : Nat → Int) : ∀ j, ∃ T, wR L0 R j = L0 ++ T
  | 0 => ⟨[], by rw [wR, List.append_nil]⟩
  | j + 1 => by
    obtain ⟨T, hT⟩ := wR_front L0 R j
    rw [wR]
    split
    · exact ⟨T, hT⟩
    · exact ⟨T ++ [R j, 3, 0], by rw [hT, List.append_assoc]⟩
theorem wR_get (L0 : List Int) (R : Nat → Int) (j p : Nat) (hp : p < L0.length) : (wR L0 R j).getD p 0 = L0.getD p 0 := by
  obtain ⟨T, hT⟩ := wR_front L0 R j
  rw [hT, List.getD_eq_getElem?_getD, List.getD_eq_getElem?_getD, List.getElem?_append_left hp]
theorem wR_grow (L0 : List Int) (R : Nat → Int) (j p : Nat) (hp : p < (wR L0 R j).length) : p < (wR L0 R (j + 1)).length ∧ (wR L0 R (j + 1)).getD p 0 = (wR L0 R j).getD p 0 := by
  rw [wR]
  split
  · exact ⟨hp, rfl⟩
  · exact ⟨by simp; omega, by rw [List.getD_eq_getElem?_getD, List.getD_eq_getElem?_getD, List.getElem?_append_left hp]⟩
theorem wR_key (L0 : List Int) (R : Nat → Int) (h0 : ∃ n, L0.length = n * 3) : ∀ j i, i < j → ∃ p, p * 3 < (wR L0 R j).length ∧ (wR L0 R j).getD (p * 3) 0 = R i
  | 0, i, hi => absurd hi (Nat.not_lt_zero i)
  | j + 1, i, hi => by
    rcases Nat.lt_or_ge i j with h | h
    · obtain ⟨p, h1, h2⟩ := wR_key L0 R h0 j i h
      obtain ⟨h3, h4⟩ := wR_grow L0 R j (p * 3) h1
      exact ⟨p, h3, h4.trans h2⟩
    · obtain rfl : i = j := by omega
      obtain ⟨m, hm⟩ := wR_three L0 R h0 i
      cases hh : hasI (fun p => (wR L0 R i).getD p 0) (R i) m with
      | true =>
        rw [wR_has hm hh]
        obtain ⟨p, h1, h2⟩ := hasI_true.1 hh
        exact ⟨p, by omega, h2⟩
      | false =>
        rw [wR_new hm hh]
        refine ⟨m, by simp; omega, ?_⟩
        rw [List.getD_eq_getElem?_getD, List.getElem?_append_right (by omega), hm]
        simp
theorem neqItem (x0 x1 x2 : Int) (w : World) : (binOp .neq 35 (.agg #[.int .i64 x0, .int .i64 x1, .int .i64 x2]) (.agg #[.int .i64 x0, .int .i64 x1, .int .i64 x2])).run Try.prog w = .ok (.bool false) w := by
  have hS : Try.prog.underlying 35 = some (.struct (Try.prog.fieldsOf 35)) := by kernel_rfl
  have hp : Try.prog.stoodInHeld 35 = false := by kernel_rfl
  have u2 := Try.underlying2
  have a2 := Try.isAgg2
  have z2 := Try.sizeOf2
  rw [run_neq_struct, show (10000 : Nat) = 9999 + 1 from rfl, run_equalIn_agg w 9999 _ _ _ hS hp]
  simp only [Program.fieldsOf, Try.underlying35]
  go_simp
  try simp
theorem field_new0 (c s z u t a : Int) (v : Value) (w : World) : (Instr.field 31 (.agg #[.int .i64 c, .int .i64 s, .int .i64 z, .int .i64 u, .int .i64 t, .int .i64 a, v]) 0).run Try.prog w = .ok (.int .i64 c) w := by kernel_rfl
theorem field_new1 (c s z u t a : Int) (ao : Option Addr) (n cp : Nat) (w : World) : (Instr.field 31 (.agg #[.int .i64 c, .int .i64 s, .int .i64 z, .int .i64 u, .int .i64 t, .int .i64 a, .slice ao n cp]) 1).run Try.prog w = .ok (.agg #[.int .i64 s, .int .i64 z, .int .i64 u, .int .i64 t, .int .i64 a, .slice ao n cp]) w := by kernel_rfl
theorem field_txn5 (s z u t a : Int) (ao : Option Addr) (n cp : Nat) (w : World) : (Instr.field 29 (.agg #[.int .i64 s, .int .i64 z, .int .i64 u, .int .i64 t, .int .i64 a, .slice ao n cp]) 5).run Try.prog w = .ok (.slice ao n cp) w := by kernel_rfl
/-- What stands while the law looks: the new transaction in block b, its items, and what was drawn. -/
structure EnvX (w : World) (b : Nat) (s u : Int) (m : Nat) (G : Nat → Int) (v : Value) (nr : Nat) (R : Nat → Int) (yr : Value) (n : Nat) (F : Nat → Int) (yw : Value) (x : World) : Prop where
  below : Below w.heap.size w x
  k7 : Blk7 x b (.int .i64 0) (.int .i64 s) (.int .i64 0) (.int .i64 u) (.int .i64 1) (.int .i64 0) v
  items : Row x 0 3 m G v
  reads : Row x 0 1 nr R yr
  writes : Row x 0 3 n F yw
theorem EnvX.later {w : World} {b : Nat} {s u : Int} {m : Nat} {G : Nat → Int} {v : Value} {nr : Nat} {R : Nat → Int} {yr : Value} {n : Nat} {F : Nat → Int} {yw : Value} {x x' : World} (h : EnvX w b s u m G v nr R yr n F yw x) (hb : Below x.heap.size x x') : EnvX w b s u m G v nr R yr n F yw x' :=
  ⟨h.below.trans (hb.mono h.below.size), h.k7.later hb, h.items.later hb, h.reads.later hb, h.writes.later hb⟩
/-- .. and what was told of it. -/
structure FinX (w : World) (b p l : Nat) (s u : Int) (m : Nat) (G : Nat → Int) (v : Value) (nr : Nat) (R : Nat → Int) (yr : Value) (n : Nat) (F : Nat → Int) (yw : Value) (x : World) : Prop where
  env : EnvX w b s u m G v nr R yr n F yw x
  kp : Blk2 x p (.int .i64 0) (.int .i64 (G 0))
  kl : Blk2 x l (.int .i64 0) (.int .i64 (2 * m + 1))
theorem FinX.later {w : World} {b p l : Nat} {s u : Int} {m : Nat} {G : Nat → Int} {v : Value} {nr : Nat} {R : Nat → Int} {yr : Value} {n : Nat} {F : Nat → Int} {yw : Value} {x x' : World} (h : FinX w b p l s u m G v nr R yr n F yw x) (hb : Below x.heap.size x x') : FinX w b p l s u m G v nr R yr n F yw x' := ⟨h.env.later hb, h.kp.later hb, h.kl.later hb⟩
theorem lwBigT_is (o : Option Addr) (len cap : Nat) (r : Bool) (w : World) (h : decide ((1048576 : Int) < (len : Int)) = r) :
    Calls Try.prog 9 #[.slice o len cap] w fun e w' => e = .returned (.bool r) ∧ w' = w := by
  go_enter Try.func9, Try.ntmps9
  go_wp2
  go_ret
  exact ⟨by first | rfl | (rw [← h]; rfl), rfl⟩
set_option maxRecDepth 100000 in
set_option maxHeartbeats 8000000 in
theorem fnTxns_over (o : Option Addr) (len cap : Nat) (w : World) (hl0 : len ≤ maxLen) (hd : len ≤ 1048576 → Calls Try.prog 10 #[.slice o len cap] w (DrawnT w)) :
    Calls Try.prog 3 #[.slice o len cap] w fun e w' => e = .returned (.bool true) ∧ Below w.heap.size w w' := by
  have hml : maxLen = 9223372036854775807 := rfl
  by_cases hbig : (1048576 : Int) < len
  · have d : decide ((1048576 : Int) < (len : Int)) = true := decide_eq_true hbig
    go_enter Try.func3, Try.ntmps3
    go_wp2_with fail
    refine (lwBigT_is _ _ _ _ _ d).mono ?_
    rintro e w9 ⟨rfl, hw9⟩
    obtain rfl := hw9.symm
    go_wp2
    go_ret
    exact ⟨rfl, Below.refl _ _⟩
  have d : decide ((1048576 : Int) < (len : Int)) = false := decide_eq_false hbig
  have HD : Hid (Calls Try.prog 10 #[.slice o len cap] w (DrawnT w)) := hd (by omega)
  clear hd hbig hml hl0
  go_enter Try.func3, Try.ntmps3
  go_wp2_with fail
  refine (lwBigT_is _ _ _ _ _ d).mono ?_
  rintro e w9 ⟨rfl, hw9⟩
  obtain rfl := hw9.symm
  clear hw9
  go_wp2_with fail
  refine HD.out.mono ?_
  rintro e w1 ⟨s, u, nr, n, R, F, yr, yw, rfl, hnr, hn, hR, hF, q1⟩
  obtain ⟨ar, cr, rfl⟩ := hR.form
  obtain ⟨aw, cw, rfl⟩ := hF.form
  have R1 : Hid (Row w1 0 1 nr R (.slice ar nr cr) ∧ Row w1 0 3 n F (.slice aw n cw) ∧ Below w.heap.size w w1) := ⟨hR.mono (Nat.zero_le _), hF.mono (Nat.zero_le _), q1⟩
  clear hR hF q1 HD d
  obtain ⟨c, s', u', st', m, L, ha⟩ := NewT.get s u n F nr R
  have HA : Hid (NewT s u n F nr R c s' u' st' m L) := ha
  go_wp2_with fail
  refine (implNewTxn_is s u _ _ n nr F R _ R1.out.2.1 R1.out.1 (by omega) c s' u' st' m L HA.out).mono ?_
  rintro e w2 ⟨v, rfl, o2, q2⟩
  obtain ⟨og, pg, rfl⟩ := o2.form
  have O2 : Hid (OwnM w2 w1.heap.size 35 3 (.slice og m pg) m L) := o2
  have R2 : Hid (Row w2 0 1 nr R (.slice ar nr cr) ∧ Row w2 0 3 n F (.slice aw n cw) ∧ Below w.heap.size w w2) := ⟨R1.out.1.later q2, R1.out.2.1.later q2, R1.out.2.2.trans (q2.mono R1.out.2.2.size)⟩
  clear o2 q2 R1
  by_cases hc : c = 0
  case neg =>
    have dc : (c != 0) = true := bne_iff_ne.2 hc
    have hf0 := field_new0
    have K3 := Blk7.new w2 (.int .i64 c) (.int .i64 s') (.int .i64 0) (.int .i64 u') (.int .i64 st') (.int .i64 0) (.slice og m pg) 31
    have R3 : Hid (Row (w2.alloc (.cells #[.int .i64 c, .int .i64 s', .int .i64 0, .int .i64 u', .int .i64 st', .int .i64 0, .slice og m pg] 31)).drew 0 1 nr R (.slice ar nr cr) ∧ Row (w2.alloc (.cells #[.int .i64 c, .int .i64 s', .int .i64 0, .int .i64 u', .int .i64 st', .int .i64 0, .slice og m pg] 31)).drew 0 3 n F (.slice aw n cw)) := ⟨R2.out.1.alloc _, R2.out.2.1.alloc _⟩
    have hS0 : (fun x : World => (x.cell? ⟨w2.heap.size, 0, none⟩ = some (.int .i64 c) ∧ w2.heap.size < x.heap.size) ∧ Below w.heap.size w x) (w2.alloc (.cells #[.int .i64 c, .int .i64 s', .int .i64 0, .int .i64 u', .int .i64 st', .int .i64 0, .slice og m pg] 31)).drew := ⟨⟨K3.1.1, by show w2.heap.size < (w2.alloc _).heap.size; simp⟩, (R2.out.2.2.alloc R2.out.2.2.size _).drew⟩
    clear hc K3 R2 O2
    go_wp2_with fail
    refine wp_region_held_drew (S := fun x : World => (x.cell? ⟨w2.heap.size, 0, none⟩ = some (.int .i64 c) ∧ w2.heap.size < x.heap.size) ∧ Below w.heap.size w x) (by kernel_rfl) hS0 (fun hS => ?_)
    clear hS0
    refine wpAnyH_take (i := 0) (v := ?_) rfl (by kernel_rfl) (by kernel_rfl) (by kernel_rfl) (fun _ _ _ h => h) (Or.inl ⟨by kernel_rfl, ?_⟩) hS ?_
    rotate_left
    · intro wx hx
      obtain ⟨⟨hx0, _⟩, _⟩ := hx
      go_simp
      try with_reducible rfl
    refine wpAnyH_take (i := 1) (v := ?_) rfl (by kernel_rfl) (by kernel_rfl) (by kernel_rfl) (fun _ _ _ h => h) (Or.inl ⟨by kernel_rfl, ?_⟩) hS ?_
    rotate_left
    · intro wx hx
      obtain ⟨⟨hx0, _⟩, _⟩ := hx
      go_simp
      try with_reducible rfl
    refine wpAnyH_take (i := 2) (v := ?_) rfl (by kernel_rfl) (by kernel_rfl) (by kernel_rfl) (fun _ _ _ h => h) (Or.inl ⟨by kernel_rfl, ?_⟩) hS ?_
    rotate_left
    · intro wx hx
      obtain ⟨⟨hx0, _⟩, _⟩ := hx
      go_simp
      try with_reducible rfl
    refine wpAnyH_take (i := 3) (v := ?_) rfl (by kernel_rfl) (by kernel_rfl) (by kernel_rfl) (fun _ _ _ h => h) (Or.inl ⟨by kernel_rfl, ?_⟩) hS ?_
    rotate_left
    · intro wx hx
      obtain ⟨⟨hx0, _⟩, _⟩ := hx
      go_simp
      try with_reducible rfl
    refine wpAnyH_take (i := 6) (v := ?_) rfl (by kernel_rfl) (by kernel_rfl) (by kernel_rfl) (fun _ _ _ h => h) (Or.inl ⟨by kernel_rfl, ?_⟩) hS ?_
    rotate_left
    · intro wx hx
      obtain ⟨⟨hx0, _⟩, _⟩ := hx
      go_simp
      try with_reducible rfl
    refine wpAnyH_take (i := 7) (v := ?_) rfl (by kernel_rfl) (by kernel_rfl) (by kernel_rfl) (fun _ _ _ h => h) (Or.inl ⟨by kernel_rfl, ?_⟩) hS ?_
    rotate_left
    · intro wx hx
      obtain ⟨⟨hx0, _⟩, _⟩ := hx
      go_simp
      try with_reducible rfl
    refine wpAnyH_ready (rs := [4]) (by kernel_rfl) (by simp) ?_
    refine AllReadyH.cons rfl (fun K hK => ?_) AllReadyH.nil
    go_simp
    go_wp2_with fail
    refine (specNewTxn_is s u _ _ n nr F R _ R3.out.2 R3.out.1 (by omega) c s' u' st' m L HA.out).mono ?_
    rintro e w4 ⟨v4, rfl, o4, q4⟩
    obtain ⟨o5, p5, rfl⟩ := o4.form
    go_wp2_with fail
    refine hK.out _ _ ⟨⟨(q4.cell (p := ⟨w2.heap.size, 0, none⟩) hS.1.2).trans hS.1.1, Nat.lt_of_lt_of_le hS.1.2 q4.size⟩, hS.2.trans (q4.mono hS.2.size)⟩ (fun hS => ?_)
    clear hK K q4 o4
    refine wpAnyH_take (i := 5) (v := ?_) rfl (by kernel_rfl) (by kernel_rfl) (by kernel_rfl) (fun _ _ _ h => h) (Or.inl ⟨by kernel_rfl, ?_⟩) hS ?_
    rotate_left
    · intro wx hx
      obtain ⟨⟨hx0, _⟩, _⟩ := hx
      go_simp
      try with_reducible rfl
    refine wpAnyH_take (i := 8) (v := ?_) rfl (by kernel_rfl) (by kernel_rfl) (by kernel_rfl) (fun _ _ _ h => h) (Or.inl ⟨by kernel_rfl, ?_⟩) hS ?_
    rotate_left
    · intro wx hx
      obtain ⟨⟨hx0, _⟩, _⟩ := hx
      go_simp
      try with_reducible rfl
    refine wpAnyH_take (i := 9) (v := ?_) rfl (by kernel_rfl) (by kernel_rfl) (by kernel_rfl) (fun _ _ _ h => h) (Or.inl ⟨by kernel_rfl, ?_⟩) hS ?_
    rotate_left
    · intro wx hx
      obtain ⟨⟨hx0, _⟩, _⟩ := hx
      go_simp
      try with_reducible rfl
    refine wpAnyH_done (by kernel_rfl) ?_ _
    have HB : Hid (Below w.heap.size w w4) := hS.2
    go_simp
    go_wp2
    go_ret
    exact ⟨rfl, HB.out⟩
  subst hc
  rcases HA.out with ⟨_, h, _⟩ | ⟨h12, q, hq, hf, ⟨h, _⟩ | ⟨_, rfl, rfl, rfl, rfl, rfl⟩⟩
  · omega
  · exact absurd rfl h
  obtain ⟨G, hG⟩ : ∃ G : Nat → Int, (fun p => (wR (nums F (n * 3)) R nr).getD p 0) = G := ⟨_, rfl⟩
  rw [hG] at hf
  have HF : Hid (txnF s' 0 u' 1 0 m G = 0) := hf
  obtain ⟨_, ⟨hm1, hm12⟩, _⟩ := txnF_zero hf
  have HK : Hid (∀ i, i < nr → hasI G (R i) m = true) := by
    intro i hi
    obtain ⟨p, h1, h2⟩ := wR_key (nums F (n * 3)) R ⟨n, nums_length _ _⟩ nr i hi
    exact hasI_true.2 ⟨p, by omega, by rw [← hG]; exact h2⟩
  have HW : Hid (n ≤ m ∧ ∀ p, p < n * 3 → F p = G p) := by
    obtain ⟨T, hT⟩ := wR_front (nums F (n * 3)) R nr
    refine ⟨?_, fun p hp => ?_⟩
    · have := congrArg List.length hT
      rw [hq, List.length_append, nums_length] at this
      omega
    · rw [← hG]
      show F p = (wR (nums F (n * 3)) R nr).getD p 0
      rw [wR_get _ _ _ _ (by rw [nums_length]; exact hp)]
      simp [nums, hp]
  have HC : Hid (CapOk (.slice og m pg)) := O2.out.capOk
  have X2 : Hid (EnvX w w2.heap.size s' u' m G (.slice og m pg) nr R (.slice ar nr cr) n F (.slice aw n cw) (w2.alloc (.cells #[.int .i64 0, .int .i64 s', .int .i64 0, .int .i64 u', .int .i64 1, .int .i64 0, .slice og m pg] 31))) := by
    have hI := O2.out.rowL.1
    rw [hG] at hI
    exact ⟨R2.out.2.2.alloc R2.out.2.2.size _, Blk7.new w2 _ _ _ _ _ _ _ _, (hI.mono (Nat.zero_le _)).alloc _, R2.out.1.alloc _, R2.out.2.1.alloc _⟩
  have HS : Hid (∀ x, Row x 0 1 nr R (.slice ar nr cr) → Row x 0 3 n F (.slice aw n cw) → Calls Try.prog 12 #[.int .i64 s', .int .i64 u', .slice ar nr cr, .slice aw n cw] x (ResT x 0 s' u' 1 m (wR (nums F (n * 3)) R nr))) := fun x h1 h2 => specNewTxn_is s' u' _ _ n nr F R x h2 h1 (by omega) _ _ _ _ _ _ HA.out
  clear hq hf hG O2 R2 HA
  go_wp2
  go_loopw [8] (fun i wr => ∃ k : Nat, k ≤ nr ∧ i = .int .i64 k ∧ Hid (EnvX w w2.heap.size s' u' m G (.slice og m pg) nr R (.slice ar nr cr) n F (.slice aw n cw) wr)) (fun i _ => nr - (intOf i).toNat)
  case atStart => exact ⟨0, Nat.zero_le _, rfl, X2⟩
  case round =>
    clear X2
    obtain ⟨k, hk, rfl, HX⟩ := hrel
    by_cases hlt : k < nr
    case pos =>
      obtain ⟨gr, o', rfl, _, hgr, x0⟩ := HX.out.reads.at1 hlt
      obtain ⟨n0, N0⟩ : ∃ x, R k = x := ⟨_, rfl⟩
      rw [N0] at x0
      have HT : Hid (TruthT 0 (hasI G n0 m) true) := Or.inr ⟨rfl, by rw [← N0]; exact (HK.out k hlt).symm⟩
      have hS0 : (fun x : World => (x.cell? ⟨gr, o' + k, none⟩ = some (.int .i64 n0) ∧ gr < x.heap.size) ∧ EnvX w w2.heap.size s' u' m G (.slice og m pg) nr R (.slice (some ⟨gr, o', none⟩) nr cr) n F (.slice aw n cw) x) wr.drew := ⟨⟨x0, hgr⟩, HX.out.later (Below.drew (Below.refl _ _))⟩
      clear N0 x0 HX
      go_wp2_with fail
      refine wp_region_held_drew (S := fun x : World => (x.cell? ⟨gr, o' + k, none⟩ = some (.int .i64 n0) ∧ gr < x.heap.size) ∧ EnvX w w2.heap.size s' u' m G (.slice og m pg) nr R (.slice (some ⟨gr, o', none⟩) nr cr) n F (.slice aw n cw) x) (by kernel_rfl) hS0 (fun hS => ?_)
      clear hS0
      refine wpAnyH_take (i := 0) (v := ?_) rfl (by kernel_rfl) (by kernel_rfl) (by kernel_rfl) (fun _ _ _ h => h) (Or.inl ⟨by kernel_rfl, ?_⟩) hS ?_
      rotate_left
      · intro wx hx
        obtain ⟨⟨hx7, _⟩, hxe⟩ := hx
        obtain ⟨⟨hx0, hx1, hx2, hx3, hx4, hx5, hx6⟩, _⟩ := hxe.k7
        go_simp
        try with_reducible rfl
      refine wpAnyH_take (i := 1) (v := ?_) rfl (by kernel_rfl) (by kernel_rfl) (by kernel_rfl) (fun _ _ _ h => h) (Or.inl ⟨by kernel_rfl, ?_⟩) hS ?_
      rotate_left
      · intro wx hx
        obtain ⟨⟨hx7, _⟩, hxe⟩ := hx
        obtain ⟨⟨hx0, hx1, hx2, hx3, hx4, hx5, hx6⟩, _⟩ := hxe.k7
        go_simp
        try with_reducible rfl
      refine wpAnyH_take (i := 2) (v := ?_) rfl (by kernel_rfl) (by kernel_rfl) (by kernel_rfl) (fun _ _ _ h => h) (Or.inl ⟨by kernel_rfl, ?_⟩) hS ?_
      rotate_left
      · intro wx hx
        obtain ⟨⟨hx7, _⟩, hxe⟩ := hx
        obtain ⟨⟨hx0, hx1, hx2, hx3, hx4, hx5, hx6⟩, _⟩ := hxe.k7
        go_simp
        try with_reducible rfl
      refine wpAnyH_take (i := 3) (v := ?_) rfl (by kernel_rfl) (by kernel_rfl) (by kernel_rfl) (fun _ _ _ h => h) (Or.inl ⟨by kernel_rfl, ?_⟩) hS ?_
      rotate_left
      · intro wx hx
        obtain ⟨⟨hx7, _⟩, hxe⟩ := hx
        obtain ⟨⟨hx0, hx1, hx2, hx3, hx4, hx5, hx6⟩, _⟩ := hxe.k7
        go_simp
        try with_reducible rfl
      refine wpAnyH_take (i := 4) (v := ?_) rfl (by kernel_rfl) (by kernel_rfl) (by kernel_rfl) (fun _ _ _ h => h) (Or.inl ⟨by kernel_rfl, ?_⟩) hS ?_
      rotate_left
      · intro wx hx
        obtain ⟨⟨hx7, _⟩, hxe⟩ := hx
        obtain ⟨⟨hx0, hx1, hx2, hx3, hx4, hx5, hx6⟩, _⟩ := hxe.k7
        go_simp
        try with_reducible rfl
      refine wpAnyH_take (i := 5) (v := ?_) rfl (by kernel_rfl) (by kernel_rfl) (by kernel_rfl) (fun _ _ _ h => h) (Or.inl ⟨by kernel_rfl, ?_⟩) hS ?_
      rotate_left
      · intro wx hx
        obtain ⟨⟨hx7, _⟩, hxe⟩ := hx
        obtain ⟨⟨hx0, hx1, hx2, hx3, hx4, hx5, hx6⟩, _⟩ := hxe.k7
        go_simp
        try with_reducible rfl
      refine wpAnyH_ready (rs := [6]) (by kernel_rfl) (by simp) ?_
      refine AllReadyH.cons rfl (fun K hK => ?_) AllReadyH.nil
      go_simp
      go_wp2_with fail
      refine (implHasKey_is s' 0 u' 1 0 m G _ n0 0 HF.out _ hS.2.items HC.out (by omega) true HT.out).mono ?_
      rintro e w4 ⟨rfl, q4⟩
      go_wp2_with fail
      refine hK.out _ _ ⟨⟨(q4.cell (p := ⟨gr, o' + k, none⟩) hS.1.2).trans hS.1.1, Nat.lt_of_lt_of_le hS.1.2 q4.size⟩, hS.2.later q4⟩ (fun hS => ?_)
      clear hK K q4
      refine wpAnyH_take (i := 7) (v := ?_) rfl (by kernel_rfl) (by kernel_rfl) (by kernel_rfl) (fun _ _ _ h => h) (Or.inl ⟨by kernel_rfl, ?_⟩) hS ?_
      rotate_left
      · intro wx hx
        obtain ⟨⟨hx7, _⟩, hxe⟩ := hx
        obtain ⟨⟨hx0, hx1, hx2, hx3, hx4, hx5, hx6⟩, _⟩ := hxe.k7
        go_simp
        try with_reducible rfl
      refine wpAnyH_done (by kernel_rfl) ?_ _
      have HX : Hid (EnvX w w2.heap.size s' u' m G (.slice og m pg) nr R (.slice (some ⟨gr, o', none⟩) nr cr) n F (.slice aw n cw) w4) := hS.2
      clear hS
      go_simp
      go_wp2
      go_roundw
      case rel => exact ⟨k + 1, by omega, by go_num, HX⟩
      case measure => simp [intOf]; omega
    obtain rfl : nr = k := by omega
    clear hk hlt
    go_wp2
    go_loopw [9] (fun i wr => ∃ k : Nat, k ≤ n ∧ i = .int .i64 k ∧ Hid (EnvX w w2.heap.size s' u' m G (.slice og m pg) nr R (.slice ar nr cr) n F (.slice aw n cw) wr)) (fun i _ => n - (intOf i).toNat)
    case atStart => exact ⟨0, Nat.zero_le _, rfl, HX⟩
    case round =>
      clear HX
      obtain ⟨k, hk, rfl, HX⟩ := hrel
      by_cases hlt : k < n
      case pos =>
        have hkm : k < m := by have := HW.out.1; omega
        obtain ⟨gi, oi, rfl, _, hgi, y0, y1, y2⟩ := HX.out.items.at3 hkm
        obtain ⟨gw, ow, rfl, _, hgw, x0, x1, x2⟩ := HX.out.writes.at3 hlt
        rw [HW.out.2 _ (by omega)] at x0 x1 x2
        obtain ⟨n0, N0⟩ : ∃ x, G (k * 3) = x := ⟨_, rfl⟩
        obtain ⟨n1, N1⟩ : ∃ x, G (k * 3 + 1) = x := ⟨_, rfl⟩
        obtain ⟨n2, N2⟩ : ∃ x, G (k * 3 + 2) = x := ⟨_, rfl⟩
        rw [N0] at x0 y0
        rw [N1] at x1 y1
        rw [N2] at x2 y2
        have hne := neqItem n0 n1 n2
        obtain ⟨⟨_, _, _, _, _, _, g6⟩, _⟩ := HX.out.k7
        clear N0 N1 N2
        go_wp2_with fail
        go_quiet (fail)
        go_wp2
        go_roundw
        case rel => exact ⟨k + 1, by omega, by go_num, HX.out.later (below_dt (Below.refl _ _) _)⟩
        case measure => simp [intOf]; omega
      obtain rfl : n = k := by omega
      clear hk hlt
      have HP : Hid (ValT 0 (G 0) 0 (G 0)) := Or.inr ⟨rfl, rfl, rfl⟩
      have HL : Hid (ValT 0 (stepsV 1 0 m) 0 (2 * m + 1)) := Or.inr ⟨rfl, rfl, by unfold stepsV; simp; omega⟩
      have HO : Hid (TruthT 0 (decide ((1 : Int) = 4 ∨ (1 : Int) = 6 ∨ (1 : Int) = 7)) false) := Or.inr ⟨rfl, rfl⟩
      obtain ⟨⟨g0, g1, g2, g3, g4, g5, g6⟩, _⟩ := HX.out.k7
      go_wp2_with fail
      refine (implPrimaryOf_is s' 0 u' 1 0 m G _ 0 HF.out _ HX.out.items HC.out (by omega) 0 (G 0) HP.out).mono ?_
      rintro e w5 ⟨rfl, q5⟩
      have X5 : Hid (EnvX w w2.heap.size s' u' m G (.slice og m pg) nr R (.slice ar nr cr) n F (.slice aw n cw) (w5.alloc (.cells #[.int .i64 0, .int .i64 (G 0)] 37)) ∧ Blk2 (w5.alloc (.cells #[.int .i64 0, .int .i64 (G 0)] 37)) w5.heap.size (.int .i64 0) (.int .i64 (G 0))) := ⟨(HX.out.later q5).later (below_alloc _ _), Blk2.new w5 _ _ _⟩
      obtain ⟨⟨g0, g1, g2, g3, g4, g5, g6⟩, _⟩ := (HX.out.later q5).k7
      have hl5 := (HX.out.later q5).k7.lt
      clear q5 HX
      go_wp2_with fail
      refine (implStepsLeft_is s' 0 u' 1 0 m G _ 0 HF.out _ X5.out.1.items HC.out (by omega) 0 (2 * m + 1) HL.out).mono ?_
      rintro e w6 ⟨rfl, q6⟩
      clear g0 g1 g2 g3 g4 g5 g6 hl5
      obtain ⟨gi, oi, rfl, _, hgi, y0, _, _⟩ := X5.out.1.items.at3 (k := 0) (by omega)
      have y0 : (w5.alloc (.cells #[.int .i64 0, .int .i64 (G 0)] 37)).cell? ⟨gi, oi, none⟩ = some (.int .i64 (G 0)) := by simpa using y0
      have hS0 : (fun x : World => (x.cell? ⟨gi, oi, none⟩ = some (.int .i64 (G 0)) ∧ gi < x.heap.size) ∧ FinX w w2.heap.size w5.heap.size w6.heap.size s' u' m G (.slice (some ⟨gi, oi, none⟩) m pg) nr R (.slice ar nr cr) n F (.slice aw n cw) x) (w6.alloc (.cells #[.int .i64 0, .int .i64 (2 * m + 1)] 37)).drew := ⟨⟨((below_alloc w6 _).cell (p := ⟨gi, oi, none⟩) (Nat.lt_of_lt_of_le hgi q6.size)).trans ((q6.cell (p := ⟨gi, oi, none⟩) hgi).trans y0), by show gi < (w6.alloc _).heap.size; have := q6.size; simp; omega⟩, ((X5.out.1.later q6).later (below_alloc _ _)).later (Below.drew (Below.refl _ _)), ((X5.out.2.later q6).alloc _), Blk2.new w6 _ _ _⟩
      have hwa : IntKind.i64.wrap (2 * (m : Int)) = 2 * m := by simp [IntKind.wrap, IntKind.bits, IntKind.signed]; omega
      have hwb : IntKind.i64.wrap (2 * (m : Int) + 1) = 2 * m + 1 := by simp [IntKind.wrap, IntKind.bits, IntKind.signed]; omega
      have hm0 : 0 < m := by omega
      have hf1 := field_new1
      have hf5 := field_txn5
      obtain ⟨⟨g0, g1, g2, g3, g4, g5, g6⟩, _⟩ := (X5.out.1.later q6).k7
      have hl6 := (X5.out.1.later q6).k7.lt
      clear q6 X5 y0 hgi
      clear g0 g1 g2 g3 g4 g5 g6 hl6
      go_wp2_with fail
      refine wp_region_held_drew (S := (fun x : World => (x.cell? ⟨gi, oi, none⟩ = some (.int .i64 (G 0)) ∧ gi < x.heap.size) ∧ FinX w w2.heap.size w5.heap.size w6.heap.size s' u' m G (.slice (some ⟨gi, oi, none⟩) m pg) nr R (.slice ar nr cr) n F (.slice aw n cw) x)) (by kernel_rfl) hS0 (fun hS => ?_)
      clear hS0
      refine wpAnyH_take (i := 0) (v := ?_) rfl (by kernel_rfl) (by kernel_rfl) (by kernel_rfl) (fun _ _ _ h => h) (Or.inl ⟨by kernel_rfl, ?_⟩) hS ?_
      rotate_left
      · intro wx hx
        obtain ⟨⟨hx7, _⟩, hxe⟩ := hx
        obtain ⟨⟨hx0, hx1, hx2, hx3, hx4, hx5, hx6⟩, _⟩ := hxe.env.k7
        obtain ⟨⟨hp0, hp1⟩, _⟩ := hxe.kp
        obtain ⟨⟨hl0, hl1⟩, _⟩ := hxe.kl
        go_simp
        try with_reducible rfl
      refine wpAnyH_take (i := 1) (v := ?_) rfl (by kernel_rfl) (by kernel_rfl) (by kernel_rfl) (fun _ _ _ h => h) (Or.inl ⟨by kernel_rfl, ?_⟩) hS ?_
      rotate_left
      · intro wx hx
        obtain ⟨⟨hx7, _⟩, hxe⟩ := hx
        obtain ⟨⟨hx0, hx1, hx2, hx3, hx4, hx5, hx6⟩, _⟩ := hxe.env.k7
        obtain ⟨⟨hp0, hp1⟩, _⟩ := hxe.kp
        obtain ⟨⟨hl0, hl1⟩, _⟩ := hxe.kl
        go_simp
        try with_reducible rfl
      refine wpAnyH_ready (rs := [2]) (by kernel_rfl) (by simp) ?_
      refine AllReadyH.cons rfl (fun K hK => ?_) AllReadyH.nil
      go_simp
      go_wp2_with fail
      refine (implTxnFault_any s' 0 u' 1 0 m G _ _ hS.2.env.items HC.out).mono ?_
      rintro e w7 ⟨rfl, qq⟩
      rw [HF.out]
      go_wp2_with fail
      refine hK.out _ _ ⟨⟨(qq.cell (p := ⟨gi, oi, none⟩) hS.1.2).trans hS.1.1, Nat.lt_of_lt_of_le hS.1.2 qq.size⟩, hS.2.later qq⟩ (fun hS => ?_)
      clear hK K qq
      refine wpAnyH_take (i := 3) (v := ?_) rfl (by kernel_rfl) (by kernel_rfl) (by kernel_rfl) (fun _ _ _ h => h) (Or.inl ⟨by kernel_rfl, ?_⟩) hS ?_
      rotate_left
      · intro wx hx
        obtain ⟨⟨hx7, _⟩, hxe⟩ := hx
        obtain ⟨⟨hx0, hx1, hx2, hx3, hx4, hx5, hx6⟩, _⟩ := hxe.env.k7
        obtain ⟨⟨hp0, hp1⟩, _⟩ := hxe.kp
        obtain ⟨⟨hl0, hl1⟩, _⟩ := hxe.kl
        go_simp
        try with_reducible rfl
      refine wpAnyH_take (i := 4) (v := ?_) rfl (by kernel_rfl) (by kernel_rfl) (by kernel_rfl) (fun _ _ _ h => h) (Or.inl ⟨by kernel_rfl, ?_⟩) hS ?_
      rotate_left
      · intro wx hx
        obtain ⟨⟨hx7, _⟩, hxe⟩ := hx
        obtain ⟨⟨hx0, hx1, hx2, hx3, hx4, hx5, hx6⟩, _⟩ := hxe.env.k7
        obtain ⟨⟨hp0, hp1⟩, _⟩ := hxe.kp
        obtain ⟨⟨hl0, hl1⟩, _⟩ := hxe.kl
        go_simp
        try with_reducible rfl
      refine wpAnyH_take (i := 5) (v := ?_) rfl (by kernel_rfl) (by kernel_rfl) (by kernel_rfl) (fun _ _ _ h => h) (Or.inl ⟨by kernel_rfl, ?_⟩) hS ?_
      rotate_left
      · intro wx hx
        obtain ⟨⟨hx7, _⟩, hxe⟩ := hx
        obtain ⟨⟨hx0, hx1, hx2, hx3, hx4, hx5, hx6⟩, _⟩ := hxe.env.k7
        obtain ⟨⟨hp0, hp1⟩, _⟩ := hxe.kp
        obtain ⟨⟨hl0, hl1⟩, _⟩ := hxe.kl
        go_simp
        try with_reducible rfl
      refine wpAnyH_take (i := 6) (v := ?_) rfl (by kernel_rfl) (by kernel_rfl) (by kernel_rfl) (fun _ _ _ h => h) (Or.inl ⟨by kernel_rfl, ?_⟩) hS ?_
      rotate_left
      · intro wx hx
        obtain ⟨⟨hx7, _⟩, hxe⟩ := hx
        obtain ⟨⟨hx0, hx1, hx2, hx3, hx4, hx5, hx6⟩, _⟩ := hxe.env.k7
        obtain ⟨⟨hp0, hp1⟩, _⟩ := hxe.kp
        obtain ⟨⟨hl0, hl1⟩, _⟩ := hxe.kl
        go_simp
        try with_reducible rfl
      refine wpAnyH_take (i := 7) (v := ?_) rfl (by kernel_rfl) (by kernel_rfl) (by kernel_rfl) (fun _ _ _ h => h) (Or.inl ⟨by kernel_rfl, ?_⟩) hS ?_
      rotate_left
      · intro wx hx
        obtain ⟨⟨hx7, _⟩, hxe⟩ := hx
        obtain ⟨⟨hx0, hx1, hx2, hx3, hx4, hx5, hx6⟩, _⟩ := hxe.env.k7
        obtain ⟨⟨hp0, hp1⟩, _⟩ := hxe.kp
        obtain ⟨⟨hl0, hl1⟩, _⟩ := hxe.kl
        go_simp
        try with_reducible rfl
      refine wpAnyH_take (i := 8) (v := ?_) rfl (by kernel_rfl) (by kernel_rfl) (by kernel_rfl) (fun _ _ _ h => h) (Or.inl ⟨by kernel_rfl, ?_⟩) hS ?_
      rotate_left
      · intro wx hx
        obtain ⟨⟨hx7, _⟩, hxe⟩ := hx
        obtain ⟨⟨hx0, hx1, hx2, hx3, hx4, hx5, hx6⟩, _⟩ := hxe.env.k7
        obtain ⟨⟨hp0, hp1⟩, _⟩ := hxe.kp
        obtain ⟨⟨hl0, hl1⟩, _⟩ := hxe.kl
        go_simp
        try with_reducible rfl
      refine wpAnyH_take (i := 9) (v := ?_) rfl (by kernel_rfl) (by kernel_rfl) (by kernel_rfl) (fun _ _ _ h => h) (Or.inl ⟨by kernel_rfl, ?_⟩) hS ?_
      rotate_left
      · intro wx hx
        obtain ⟨⟨hx7, _⟩, hxe⟩ := hx
        obtain ⟨⟨hx0, hx1, hx2, hx3, hx4, hx5, hx6⟩, _⟩ := hxe.env.k7
        obtain ⟨⟨hp0, hp1⟩, _⟩ := hxe.kp
        obtain ⟨⟨hl0, hl1⟩, _⟩ := hxe.kl
        go_simp
        try with_reducible rfl
      refine wpAnyH_take (i := 10) (v := ?_) rfl (by kernel_rfl) (by kernel_rfl) (by kernel_rfl) (fun _ _ _ h => h) (Or.inl ⟨by kernel_rfl, ?_⟩) hS ?_
      rotate_left
      · intro wx hx
        obtain ⟨⟨hx7, _⟩, hxe⟩ := hx
        obtain ⟨⟨hx0, hx1, hx2, hx3, hx4, hx5, hx6⟩, _⟩ := hxe.env.k7
        obtain ⟨⟨hp0, hp1⟩, _⟩ := hxe.kp
        obtain ⟨⟨hl0, hl1⟩, _⟩ := hxe.kl
        go_simp
        try with_reducible rfl
      refine wpAnyH_take (i := 11) (v := ?_) rfl (by kernel_rfl) (by kernel_rfl) (by kernel_rfl) (fun _ _ _ h => h) (Or.inl ⟨by kernel_rfl, ?_⟩) hS ?_
      rotate_left
      · intro wx hx
        obtain ⟨⟨hx7, _⟩, hxe⟩ := hx
        obtain ⟨⟨hx0, hx1, hx2, hx3, hx4, hx5, hx6⟩, _⟩ := hxe.env.k7
        obtain ⟨⟨hp0, hp1⟩, _⟩ := hxe.kp
        obtain ⟨⟨hl0, hl1⟩, _⟩ := hxe.kl
        go_simp
        try with_reducible rfl
      refine wpAnyH_take (i := 12) (v := ?_) rfl (by kernel_rfl) (by kernel_rfl) (by kernel_rfl) (fun _ _ _ h => h) (Or.inl ⟨by kernel_rfl, ?_⟩) hS ?_
      rotate_left
      · intro wx hx
        obtain ⟨⟨hx7, _⟩, hxe⟩ := hx
        obtain ⟨⟨hx0, hx1, hx2, hx3, hx4, hx5, hx6⟩, _⟩ := hxe.env.k7
        obtain ⟨⟨hp0, hp1⟩, _⟩ := hxe.kp
        obtain ⟨⟨hl0, hl1⟩, _⟩ := hxe.kl
        go_simp
        try with_reducible rfl
      refine wpAnyH_take (i := 13) (v := ?_) rfl (by kernel_rfl) (by kernel_rfl) (by kernel_rfl) (fun _ _ _ h => h) (Or.inl ⟨by kernel_rfl, ?_⟩) hS ?_
      rotate_left
      · intro wx hx
        obtain ⟨⟨hx7, _⟩, hxe⟩ := hx
        obtain ⟨⟨hx0, hx1, hx2, hx3, hx4, hx5, hx6⟩, _⟩ := hxe.env.k7
        obtain ⟨⟨hp0, hp1⟩, _⟩ := hxe.kp
        obtain ⟨⟨hl0, hl1⟩, _⟩ := hxe.kl
        go_simp
        try with_reducible rfl
      refine wpAnyH_take (i := 14) (v := ?_) rfl (by kernel_rfl) (by kernel_rfl) (by kernel_rfl) (fun _ _ _ h => h) (Or.inl ⟨by kernel_rfl, ?_⟩) hS ?_
      rotate_left
      · intro wx hx
        obtain ⟨⟨hx7, _⟩, hxe⟩ := hx
        obtain ⟨⟨hx0, hx1, hx2, hx3, hx4, hx5, hx6⟩, _⟩ := hxe.env.k7
        obtain ⟨⟨hp0, hp1⟩, _⟩ := hxe.kp
        obtain ⟨⟨hl0, hl1⟩, _⟩ := hxe.kl
        go_simp
        try with_reducible rfl
      refine wpAnyH_take (i := 15) (v := ?_) rfl (by kernel_rfl) (by kernel_rfl) (by kernel_rfl) (fun _ _ _ h => h) (Or.inl ⟨by kernel_rfl, ?_⟩) hS ?_
      rotate_left
      · intro wx hx
        obtain ⟨⟨hx7, _⟩, hxe⟩ := hx
        obtain ⟨⟨hx0, hx1, hx2, hx3, hx4, hx5, hx6⟩, _⟩ := hxe.env.k7
        obtain ⟨⟨hp0, hp1⟩, _⟩ := hxe.kp
        obtain ⟨⟨hl0, hl1⟩, _⟩ := hxe.kl
        go_simp
        try with_reducible rfl
      refine wpAnyH_take (i := 16) (v := ?_) rfl (by kernel_rfl) (by kernel_rfl) (by kernel_rfl) (fun _ _ _ h => h) (Or.inl ⟨by kernel_rfl, ?_⟩) hS ?_
      rotate_left
      · intro wx hx
        obtain ⟨⟨hx7, _⟩, hxe⟩ := hx
        obtain ⟨⟨hx0, hx1, hx2, hx3, hx4, hx5, hx6⟩, _⟩ := hxe.env.k7
        obtain ⟨⟨hp0, hp1⟩, _⟩ := hxe.kp
        obtain ⟨⟨hl0, hl1⟩, _⟩ := hxe.kl
        go_simp
        try with_reducible rfl
      refine wpAnyH_take (i := 17) (v := ?_) rfl (by kernel_rfl) (by kernel_rfl) (by kernel_rfl) (fun _ _ _ h => h) (Or.inl ⟨by kernel_rfl, ?_⟩) hS ?_
      rotate_left
      · intro wx hx
        obtain ⟨⟨hx7, _⟩, hxe⟩ := hx
        obtain ⟨⟨hx0, hx1, hx2, hx3, hx4, hx5, hx6⟩, _⟩ := hxe.env.k7
        obtain ⟨⟨hp0, hp1⟩, _⟩ := hxe.kp
        obtain ⟨⟨hl0, hl1⟩, _⟩ := hxe.kl
        go_simp
        try with_reducible rfl
      refine wpAnyH_take (i := 18) (v := ?_) rfl (by kernel_rfl) (by kernel_rfl) (by kernel_rfl) (fun _ _ _ h => h) (Or.inl ⟨by kernel_rfl, ?_⟩) hS ?_
      rotate_left
      · intro wx hx
        obtain ⟨⟨hx7, _⟩, hxe⟩ := hx
        obtain ⟨⟨hx0, hx1, hx2, hx3, hx4, hx5, hx6⟩, _⟩ := hxe.env.k7
        obtain ⟨⟨hp0, hp1⟩, _⟩ := hxe.kp
        obtain ⟨⟨hl0, hl1⟩, _⟩ := hxe.kl
        go_simp
        try with_reducible rfl
      refine wpAnyH_take (i := 19) (v := ?_) rfl (by kernel_rfl) (by kernel_rfl) (by kernel_rfl) (fun _ _ _ h => h) (Or.inl ⟨by kernel_rfl, ?_⟩) hS ?_
      rotate_left
      · intro wx hx
        obtain ⟨⟨hx7, _⟩, hxe⟩ := hx
        obtain ⟨⟨hx0, hx1, hx2, hx3, hx4, hx5, hx6⟩, _⟩ := hxe.env.k7
        obtain ⟨⟨hp0, hp1⟩, _⟩ := hxe.kp
        obtain ⟨⟨hl0, hl1⟩, _⟩ := hxe.kl
        go_simp
        try with_reducible rfl
      refine wpAnyH_take (i := 20) (v := ?_) rfl (by kernel_rfl) (by kernel_rfl) (by kernel_rfl) (fun _ _ _ h => h) (Or.inl ⟨by kernel_rfl, ?_⟩) hS ?_
      rotate_left
      · intro wx hx
        obtain ⟨⟨hx7, _⟩, hxe⟩ := hx
        obtain ⟨⟨hx0, hx1, hx2, hx3, hx4, hx5, hx6⟩, _⟩ := hxe.env.k7
        obtain ⟨⟨hp0, hp1⟩, _⟩ := hxe.kp
        obtain ⟨⟨hl0, hl1⟩, _⟩ := hxe.kl
        go_simp
        try with_reducible rfl
      refine wpAnyH_take (i := 21) (v := ?_) rfl (by kernel_rfl) (by kernel_rfl) (by kernel_rfl) (fun _ _ _ h => h) (Or.inl ⟨by kernel_rfl, ?_⟩) hS ?_
      rotate_left
      · intro wx hx
        obtain ⟨⟨hx7, _⟩, hxe⟩ := hx
        obtain ⟨⟨hx0, hx1, hx2, hx3, hx4, hx5, hx6⟩, _⟩ := hxe.env.k7
        obtain ⟨⟨hp0, hp1⟩, _⟩ := hxe.kp
        obtain ⟨⟨hl0, hl1⟩, _⟩ := hxe.kl
        go_simp
        try with_reducible rfl
      refine wpAnyH_take (i := 22) (v := ?_) rfl (by kernel_rfl) (by kernel_rfl) (by kernel_rfl) (fun _ _ _ h => h) (Or.inl ⟨by kernel_rfl, ?_⟩) hS ?_
      rotate_left
      · intro wx hx
        obtain ⟨⟨hx7, _⟩, hxe⟩ := hx
        obtain ⟨⟨hx0, hx1, hx2, hx3, hx4, hx5, hx6⟩, _⟩ := hxe.env.k7
        obtain ⟨⟨hp0, hp1⟩, _⟩ := hxe.kp
        obtain ⟨⟨hl0, hl1⟩, _⟩ := hxe.kl
        go_simp
        try with_reducible rfl
      refine wpAnyH_ready (rs := [23]) (by kernel_rfl) (by simp) ?_
      refine AllReadyH.cons rfl (fun K hK => ?_) AllReadyH.nil
      go_simp
      go_wp2_with fail
      refine (implIsOver_is s' 0 u' 1 0 m G _ 0 HF.out _ hS.2.env.items HC.out false HO.out).mono ?_
      rintro e w8 ⟨rfl, qq⟩
      go_wp2_with fail
      refine hK.out _ _ ⟨⟨(qq.cell (p := ⟨gi, oi, none⟩) hS.1.2).trans hS.1.1, Nat.lt_of_lt_of_le hS.1.2 qq.size⟩, hS.2.later qq⟩ (fun hS => ?_)
      clear hK K qq
      refine wpAnyH_take (i := 24) (v := ?_) rfl (by kernel_rfl) (by kernel_rfl) (by kernel_rfl) (fun _ _ _ h => h) (Or.inl ⟨by kernel_rfl, ?_⟩) hS ?_
      rotate_left
      · intro wx hx
        obtain ⟨⟨hx7, _⟩, hxe⟩ := hx
        obtain ⟨⟨hx0, hx1, hx2, hx3, hx4, hx5, hx6⟩, _⟩ := hxe.env.k7
        obtain ⟨⟨hp0, hp1⟩, _⟩ := hxe.kp
        obtain ⟨⟨hl0, hl1⟩, _⟩ := hxe.kl
        go_simp
        try with_reducible rfl
      refine wpAnyH_take (i := 25) (v := ?_) rfl (by kernel_rfl) (by kernel_rfl) (by kernel_rfl) (fun _ _ _ h => h) (Or.inl ⟨by kernel_rfl, ?_⟩) hS ?_
      rotate_left
      · intro wx hx
        obtain ⟨⟨hx7, _⟩, hxe⟩ := hx
        obtain ⟨⟨hx0, hx1, hx2, hx3, hx4, hx5, hx6⟩, _⟩ := hxe.env.k7
        obtain ⟨⟨hp0, hp1⟩, _⟩ := hxe.kp
        obtain ⟨⟨hl0, hl1⟩, _⟩ := hxe.kl
        go_simp
        try with_reducible rfl
      refine wpAnyH_take (i := 26) (v := ?_) rfl (by kernel_rfl) (by kernel_rfl) (by kernel_rfl) (fun _ _ _ h => h) (Or.inl ⟨by kernel_rfl, ?_⟩) hS ?_
      rotate_left
      · intro wx hx
        obtain ⟨⟨hx7, _⟩, hxe⟩ := hx
        obtain ⟨⟨hx0, hx1, hx2, hx3, hx4, hx5, hx6⟩, _⟩ := hxe.env.k7
        obtain ⟨⟨hp0, hp1⟩, _⟩ := hxe.kp
        obtain ⟨⟨hl0, hl1⟩, _⟩ := hxe.kl
        go_simp
        try with_reducible rfl
      refine wpAnyH_take (i := 27) (v := ?_) rfl (by kernel_rfl) (by kernel_rfl) (by kernel_rfl) (fun _ _ _ h => h) (Or.inl ⟨by kernel_rfl, ?_⟩) hS ?_
      rotate_left
      · intro wx hx
        obtain ⟨⟨hx7, _⟩, hxe⟩ := hx
        obtain ⟨⟨hx0, hx1, hx2, hx3, hx4, hx5, hx6⟩, _⟩ := hxe.env.k7
        obtain ⟨⟨hp0, hp1⟩, _⟩ := hxe.kp
        obtain ⟨⟨hl0, hl1⟩, _⟩ := hxe.kl
        go_simp
        try with_reducible rfl
      refine wpAnyH_take (i := 28) (v := ?_) rfl (by kernel_rfl) (by kernel_rfl) (by kernel_rfl) (fun _ _ _ h => h) (Or.inl ⟨by kernel_rfl, ?_⟩) hS ?_
      rotate_left
      · intro wx hx
        obtain ⟨⟨hx7, _⟩, hxe⟩ := hx
        obtain ⟨⟨hx0, hx1, hx2, hx3, hx4, hx5, hx6⟩, _⟩ := hxe.env.k7
        obtain ⟨⟨hp0, hp1⟩, _⟩ := hxe.kp
        obtain ⟨⟨hl0, hl1⟩, _⟩ := hxe.kl
        go_simp
        try with_reducible rfl
      refine wpAnyH_take (i := 29) (v := ?_) rfl (by kernel_rfl) (by kernel_rfl) (by kernel_rfl) (fun _ _ _ h => h) (Or.inl ⟨by kernel_rfl, ?_⟩) hS ?_
      rotate_left
      · intro wx hx
        obtain ⟨⟨hx7, _⟩, hxe⟩ := hx
        obtain ⟨⟨hx0, hx1, hx2, hx3, hx4, hx5, hx6⟩, _⟩ := hxe.env.k7
        obtain ⟨⟨hp0, hp1⟩, _⟩ := hxe.kp
        obtain ⟨⟨hl0, hl1⟩, _⟩ := hxe.kl
        go_simp
        try with_reducible rfl
      refine wpAnyH_take (i := 30) (v := ?_) rfl (by kernel_rfl) (by kernel_rfl) (by kernel_rfl) (fun _ _ _ h => h) (Or.inl ⟨by kernel_rfl, ?_⟩) hS ?_
      rotate_left
      · intro wx hx
        obtain ⟨⟨hx7, _⟩, hxe⟩ := hx
        obtain ⟨⟨hx0, hx1, hx2, hx3, hx4, hx5, hx6⟩, _⟩ := hxe.env.k7
        obtain ⟨⟨hp0, hp1⟩, _⟩ := hxe.kp
        obtain ⟨⟨hl0, hl1⟩, _⟩ := hxe.kl
        go_simp
        try with_reducible rfl
      refine wpAnyH_take (i := 31) (v := ?_) rfl (by kernel_rfl) (by kernel_rfl) (by kernel_rfl) (fun _ _ _ h => h) (Or.inl ⟨by kernel_rfl, ?_⟩) hS ?_
      rotate_left
      · intro wx hx
        obtain ⟨⟨hx7, _⟩, hxe⟩ := hx
        obtain ⟨⟨hx0, hx1, hx2, hx3, hx4, hx5, hx6⟩, _⟩ := hxe.env.k7
        obtain ⟨⟨hp0, hp1⟩, _⟩ := hxe.kp
        obtain ⟨⟨hl0, hl1⟩, _⟩ := hxe.kl
        go_simp
        try with_reducible rfl
      refine wpAnyH_take (i := 32) (v := ?_) rfl (by kernel_rfl) (by kernel_rfl) (by kernel_rfl) (fun _ _ _ h => h) (Or.inl ⟨by kernel_rfl, ?_⟩) hS ?_
      rotate_left
      · intro wx hx
        obtain ⟨⟨hx7, _⟩, hxe⟩ := hx
        obtain ⟨⟨hx0, hx1, hx2, hx3, hx4, hx5, hx6⟩, _⟩ := hxe.env.k7
        obtain ⟨⟨hp0, hp1⟩, _⟩ := hxe.kp
        obtain ⟨⟨hl0, hl1⟩, _⟩ := hxe.kl
        go_simp
        try with_reducible rfl
      refine wpAnyH_take (i := 33) (v := ?_) rfl (by kernel_rfl) (by kernel_rfl) (by kernel_rfl) (fun _ _ _ h => h) (Or.inl ⟨by kernel_rfl, ?_⟩) hS ?_
      rotate_left
      · intro wx hx
        obtain ⟨⟨hx7, _⟩, hxe⟩ := hx
        obtain ⟨⟨hx0, hx1, hx2, hx3, hx4, hx5, hx6⟩, _⟩ := hxe.env.k7
        obtain ⟨⟨hp0, hp1⟩, _⟩ := hxe.kp
        obtain ⟨⟨hl0, hl1⟩, _⟩ := hxe.kl
        go_simp
        try with_reducible rfl
      refine wpAnyH_take (i := 34) (v := ?_) rfl (by kernel_rfl) (by kernel_rfl) (by kernel_rfl) (fun _ _ _ h => h) (Or.inl ⟨by kernel_rfl, ?_⟩) hS ?_
      rotate_left
      · intro wx hx
        obtain ⟨⟨hx7, _⟩, hxe⟩ := hx
        obtain ⟨⟨hx0, hx1, hx2, hx3, hx4, hx5, hx6⟩, _⟩ := hxe.env.k7
        obtain ⟨⟨hp0, hp1⟩, _⟩ := hxe.kp
        obtain ⟨⟨hl0, hl1⟩, _⟩ := hxe.kl
        go_simp
        try with_reducible rfl
      refine wpAnyH_take (i := 35) (v := ?_) rfl (by kernel_rfl) (by kernel_rfl) (by kernel_rfl) (fun _ _ _ h => h) (Or.inl ⟨by kernel_rfl, ?_⟩) hS ?_
      rotate_left
      · intro wx hx
        obtain ⟨⟨hx7, _⟩, hxe⟩ := hx
        obtain ⟨⟨hx0, hx1, hx2, hx3, hx4, hx5, hx6⟩, _⟩ := hxe.env.k7
        obtain ⟨⟨hp0, hp1⟩, _⟩ := hxe.kp
        obtain ⟨⟨hl0, hl1⟩, _⟩ := hxe.kl
        go_simp
        try with_reducible rfl
      refine wpAnyH_take (i := 36) (v := ?_) rfl (by kernel_rfl) (by kernel_rfl) (by kernel_rfl) (fun _ _ _ h => h) (Or.inl ⟨by kernel_rfl, ?_⟩) hS ?_
      rotate_left
      · intro wx hx
        obtain ⟨⟨hx7, _⟩, hxe⟩ := hx
        obtain ⟨⟨hx0, hx1, hx2, hx3, hx4, hx5, hx6⟩, _⟩ := hxe.env.k7
        obtain ⟨⟨hp0, hp1⟩, _⟩ := hxe.kp
        obtain ⟨⟨hl0, hl1⟩, _⟩ := hxe.kl
        go_simp
        try with_reducible rfl
      refine wpAnyH_take (i := 37) (v := ?_) rfl (by kernel_rfl) (by kernel_rfl) (by kernel_rfl) (fun _ _ _ h => h) (Or.inl ⟨by kernel_rfl, ?_⟩) hS ?_
      rotate_left
      · intro wx hx
        obtain ⟨⟨hx7, _⟩, hxe⟩ := hx
        obtain ⟨⟨hx0, hx1, hx2, hx3, hx4, hx5, hx6⟩, _⟩ := hxe.env.k7
        obtain ⟨⟨hp0, hp1⟩, _⟩ := hxe.kp
        obtain ⟨⟨hl0, hl1⟩, _⟩ := hxe.kl
        go_simp
        try with_reducible rfl
      refine wpAnyH_take (i := 38) (v := ?_) rfl (by kernel_rfl) (by kernel_rfl) (by kernel_rfl) (fun _ _ _ h => h) (Or.inl ⟨by kernel_rfl, ?_⟩) hS ?_
      rotate_left
      · intro wx hx
        obtain ⟨⟨hx7, _⟩, hxe⟩ := hx
        obtain ⟨⟨hx0, hx1, hx2, hx3, hx4, hx5, hx6⟩, _⟩ := hxe.env.k7
        obtain ⟨⟨hp0, hp1⟩, _⟩ := hxe.kp
        obtain ⟨⟨hl0, hl1⟩, _⟩ := hxe.kl
        go_simp
        try with_reducible rfl
      refine wpAnyH_take (i := 39) (v := ?_) rfl (by kernel_rfl) (by kernel_rfl) (by kernel_rfl) (fun _ _ _ h => h) (Or.inl ⟨by kernel_rfl, ?_⟩) hS ?_
      rotate_left
      · intro wx hx
        obtain ⟨⟨hx7, _⟩, hxe⟩ := hx
        obtain ⟨⟨hx0, hx1, hx2, hx3, hx4, hx5, hx6⟩, _⟩ := hxe.env.k7
        obtain ⟨⟨hp0, hp1⟩, _⟩ := hxe.kp
        obtain ⟨⟨hl0, hl1⟩, _⟩ := hxe.kl
        go_simp
        try with_reducible rfl
      refine wpAnyH_take (i := 40) (v := ?_) rfl (by kernel_rfl) (by kernel_rfl) (by kernel_rfl) (fun _ _ _ h => h) (Or.inl ⟨by kernel_rfl, ?_⟩) hS ?_
      rotate_left
      · intro wx hx
        obtain ⟨⟨hx7, _⟩, hxe⟩ := hx
        obtain ⟨⟨hx0, hx1, hx2, hx3, hx4, hx5, hx6⟩, _⟩ := hxe.env.k7
        obtain ⟨⟨hp0, hp1⟩, _⟩ := hxe.kp
        obtain ⟨⟨hl0, hl1⟩, _⟩ := hxe.kl
        go_simp
        try with_reducible rfl
      refine wpAnyH_take (i := 41) (v := ?_) rfl (by kernel_rfl) (by kernel_rfl) (by kernel_rfl) (fun _ _ _ h => h) (Or.inl ⟨by kernel_rfl, ?_⟩) hS ?_
      rotate_left
      · intro wx hx
        obtain ⟨⟨hx7, _⟩, hxe⟩ := hx
        obtain ⟨⟨hx0, hx1, hx2, hx3, hx4, hx5, hx6⟩, _⟩ := hxe.env.k7
        obtain ⟨⟨hp0, hp1⟩, _⟩ := hxe.kp
        obtain ⟨⟨hl0, hl1⟩, _⟩ := hxe.kl
        go_simp
        try with_reducible rfl
      refine wpAnyH_take (i := 42) (v := ?_) rfl (by kernel_rfl) (by kernel_rfl) (by kernel_rfl) (fun _ _ _ h => h) (Or.inl ⟨by kernel_rfl, ?_⟩) hS ?_
      rotate_left
      · intro wx hx
        obtain ⟨⟨hx7, _⟩, hxe⟩ := hx
        obtain ⟨⟨hx0, hx1, hx2, hx3, hx4, hx5, hx6⟩, _⟩ := hxe.env.k7
        obtain ⟨⟨hp0, hp1⟩, _⟩ := hxe.kp
        obtain ⟨⟨hl0, hl1⟩, _⟩ := hxe.kl
        go_simp
        try with_reducible rfl
      refine wpAnyH_take (i := 43) (v := ?_) rfl (by kernel_rfl) (by kernel_rfl) (by kernel_rfl) (fun _ _ _ h => h) (Or.inl ⟨by kernel_rfl, ?_⟩) hS ?_
      rotate_left
      · intro wx hx
        obtain ⟨⟨hx7, _⟩, hxe⟩ := hx
        obtain ⟨⟨hx0, hx1, hx2, hx3, hx4, hx5, hx6⟩, _⟩ := hxe.env.k7
        obtain ⟨⟨hp0, hp1⟩, _⟩ := hxe.kp
        obtain ⟨⟨hl0, hl1⟩, _⟩ := hxe.kl
        go_simp
        try with_reducible rfl
      refine wpAnyH_take (i := 44) (v := ?_) rfl (by kernel_rfl) (by kernel_rfl) (by kernel_rfl) (fun _ _ _ h => h) (Or.inl ⟨by kernel_rfl, ?_⟩) hS ?_
      rotate_left
      · intro wx hx
        obtain ⟨⟨hx7, _⟩, hxe⟩ := hx
        obtain ⟨⟨hx0, hx1, hx2, hx3, hx4, hx5, hx6⟩, _⟩ := hxe.env.k7
        obtain ⟨⟨hp0, hp1⟩, _⟩ := hxe.kp
        obtain ⟨⟨hl0, hl1⟩, _⟩ := hxe.kl
        go_simp
        try with_reducible rfl
      refine wpAnyH_take (i := 45) (v := ?_) rfl (by kernel_rfl) (by kernel_rfl) (by kernel_rfl) (fun _ _ _ h => h) (Or.inl ⟨by kernel_rfl, ?_⟩) hS ?_
      rotate_left
      · intro wx hx
        obtain ⟨⟨hx7, _⟩, hxe⟩ := hx
        obtain ⟨⟨hx0, hx1, hx2, hx3, hx4, hx5, hx6⟩, _⟩ := hxe.env.k7
        obtain ⟨⟨hp0, hp1⟩, _⟩ := hxe.kp
        obtain ⟨⟨hl0, hl1⟩, _⟩ := hxe.kl
        go_simp
        try with_reducible rfl
      refine wpAnyH_take (i := 46) (v := ?_) rfl (by kernel_rfl) (by kernel_rfl) (by kernel_rfl) (fun _ _ _ h => h) (Or.inl ⟨by kernel_rfl, ?_⟩) hS ?_
      rotate_left
      · intro wx hx
        obtain ⟨⟨hx7, _⟩, hxe⟩ := hx
        obtain ⟨⟨hx0, hx1, hx2, hx3, hx4, hx5, hx6⟩, _⟩ := hxe.env.k7
        obtain ⟨⟨hp0, hp1⟩, _⟩ := hxe.kp
        obtain ⟨⟨hl0, hl1⟩, _⟩ := hxe.kl
        go_simp
        try with_reducible rfl
      refine wpAnyH_take (i := 47) (v := ?_) rfl (by kernel_rfl) (by kernel_rfl) (by kernel_rfl) (fun _ _ _ h => h) (Or.inl ⟨by kernel_rfl, ?_⟩) hS ?_
      rotate_left
      · intro wx hx
        obtain ⟨⟨hx7, _⟩, hxe⟩ := hx
        obtain ⟨⟨hx0, hx1, hx2, hx3, hx4, hx5, hx6⟩, _⟩ := hxe.env.k7
        obtain ⟨⟨hp0, hp1⟩, _⟩ := hxe.kp
        obtain ⟨⟨hl0, hl1⟩, _⟩ := hxe.kl
        go_simp
        try with_reducible rfl
      refine wpAnyH_take (i := 48) (v := ?_) rfl (by kernel_rfl) (by kernel_rfl) (by kernel_rfl) (fun _ _ _ h => h) (Or.inl ⟨by kernel_rfl, ?_⟩) hS ?_
      rotate_left
      · intro wx hx
        obtain ⟨⟨hx7, _⟩, hxe⟩ := hx
        obtain ⟨⟨hx0, hx1, hx2, hx3, hx4, hx5, hx6⟩, _⟩ := hxe.env.k7
        obtain ⟨⟨hp0, hp1⟩, _⟩ := hxe.kp
        obtain ⟨⟨hl0, hl1⟩, _⟩ := hxe.kl
        go_simp
        try with_reducible rfl
      refine wpAnyH_take (i := 49) (v := ?_) rfl (by kernel_rfl) (by kernel_rfl) (by kernel_rfl) (fun _ _ _ h => h) (Or.inl ⟨by kernel_rfl, ?_⟩) hS ?_
      rotate_left
      · intro wx hx
        obtain ⟨⟨hx7, _⟩, hxe⟩ := hx
        obtain ⟨⟨hx0, hx1, hx2, hx3, hx4, hx5, hx6⟩, _⟩ := hxe.env.k7
        obtain ⟨⟨hp0, hp1⟩, _⟩ := hxe.kp
        obtain ⟨⟨hl0, hl1⟩, _⟩ := hxe.kl
        go_simp
        try with_reducible rfl
      refine wpAnyH_take (i := 50) (v := ?_) rfl (by kernel_rfl) (by kernel_rfl) (by kernel_rfl) (fun _ _ _ h => h) (Or.inl ⟨by kernel_rfl, ?_⟩) hS ?_
      rotate_left
      · intro wx hx
        obtain ⟨⟨hx7, _⟩, hxe⟩ := hx
        obtain ⟨⟨hx0, hx1, hx2, hx3, hx4, hx5, hx6⟩, _⟩ := hxe.env.k7
        obtain ⟨⟨hp0, hp1⟩, _⟩ := hxe.kp
        obtain ⟨⟨hl0, hl1⟩, _⟩ := hxe.kl
        go_simp
        try with_reducible rfl
      refine wpAnyH_ready (rs := [51]) (by kernel_rfl) (by simp) ?_
      refine AllReadyH.cons rfl (fun K hK => ?_) AllReadyH.nil
      go_simp
      go_wp2_with fail
      refine (HS.out _ hS.2.env.reads hS.2.env.writes).mono ?_
      rintro e w10 ⟨v10, rfl, o10, qq⟩
      obtain ⟨a10, p10, rfl⟩ := o10.form
      clear o10
      go_wp2_with fail
      refine hK.out _ _ ⟨⟨(qq.cell (p := ⟨gi, oi, none⟩) hS.1.2).trans hS.1.1, Nat.lt_of_lt_of_le hS.1.2 qq.size⟩, hS.2.later qq⟩ (fun hS => ?_)
      clear hK K qq
      refine wpAnyH_take (i := 52) (v := ?_) rfl (by kernel_rfl) (by kernel_rfl) (by kernel_rfl) (fun _ _ _ h => h) (Or.inl ⟨by kernel_rfl, ?_⟩) hS ?_
      rotate_left
      · intro wx hx
        obtain ⟨⟨hx7, _⟩, hxe⟩ := hx
        obtain ⟨⟨hx0, hx1, hx2, hx3, hx4, hx5, hx6⟩, _⟩ := hxe.env.k7
        obtain ⟨⟨hp0, hp1⟩, _⟩ := hxe.kp
        obtain ⟨⟨hl0, hl1⟩, _⟩ := hxe.kl
        go_simp
        try with_reducible rfl
      refine wpAnyH_take (i := 53) (v := ?_) rfl (by kernel_rfl) (by kernel_rfl) (by kernel_rfl) (fun _ _ _ h => h) (Or.inl ⟨by kernel_rfl, ?_⟩) hS ?_
      rotate_left
      · intro wx hx
        obtain ⟨⟨hx7, _⟩, hxe⟩ := hx
        obtain ⟨⟨hx0, hx1, hx2, hx3, hx4, hx5, hx6⟩, _⟩ := hxe.env.k7
        obtain ⟨⟨hp0, hp1⟩, _⟩ := hxe.kp
        obtain ⟨⟨hl0, hl1⟩, _⟩ := hxe.kl
        go_simp
        try with_reducible rfl
      refine wpAnyH_take (i := 54) (v := ?_) rfl (by kernel_rfl) (by kernel_rfl) (by kernel_rfl) (fun _ _ _ h => h) (Or.inl ⟨by kernel_rfl, ?_⟩) hS ?_
      rotate_left
      · intro wx hx
        obtain ⟨⟨hx7, _⟩, hxe⟩ := hx
        obtain ⟨⟨hx0, hx1, hx2, hx3, hx4, hx5, hx6⟩, _⟩ := hxe.env.k7
        obtain ⟨⟨hp0, hp1⟩, _⟩ := hxe.kp
        obtain ⟨⟨hl0, hl1⟩, _⟩ := hxe.kl
        go_simp
        try with_reducible rfl
      refine wpAnyH_take (i := 55) (v := ?_) rfl (by kernel_rfl) (by kernel_rfl) (by kernel_rfl) (fun _ _ _ h => h) (Or.inl ⟨by kernel_rfl, ?_⟩) hS ?_
      rotate_left
      · intro wx hx
        obtain ⟨⟨hx7, _⟩, hxe⟩ := hx
        obtain ⟨⟨hx0, hx1, hx2, hx3, hx4, hx5, hx6⟩, _⟩ := hxe.env.k7
        obtain ⟨⟨hp0, hp1⟩, _⟩ := hxe.kp
        obtain ⟨⟨hl0, hl1⟩, _⟩ := hxe.kl
        go_simp
        try with_reducible rfl
      refine wpAnyH_take (i := 56) (v := ?_) rfl (by kernel_rfl) (by kernel_rfl) (by kernel_rfl) (fun _ _ _ h => h) (Or.inl ⟨by kernel_rfl, ?_⟩) hS ?_
      rotate_left
      · intro wx hx
        obtain ⟨⟨hx7, _⟩, hxe⟩ := hx
        obtain ⟨⟨hx0, hx1, hx2, hx3, hx4, hx5, hx6⟩, _⟩ := hxe.env.k7
        obtain ⟨⟨hp0, hp1⟩, _⟩ := hxe.kp
        obtain ⟨⟨hl0, hl1⟩, _⟩ := hxe.kl
        go_simp
        try with_reducible rfl
      refine wpAnyH_take (i := 57) (v := ?_) rfl (by kernel_rfl) (by kernel_rfl) (by kernel_rfl) (fun _ _ _ h => h) (Or.inl ⟨by kernel_rfl, ?_⟩) hS ?_
      rotate_left
      · intro wx hx
        obtain ⟨⟨hx7, _⟩, hxe⟩ := hx
        obtain ⟨⟨hx0, hx1, hx2, hx3, hx4, hx5, hx6⟩, _⟩ := hxe.env.k7
        obtain ⟨⟨hp0, hp1⟩, _⟩ := hxe.kp
        obtain ⟨⟨hl0, hl1⟩, _⟩ := hxe.kl
        go_simp
        try with_reducible rfl
      refine wpAnyH_done (by kernel_rfl) ?_ _
      have HB : Hid (Below w.heap.size w w10) := hS.2.env.below
      clear hS
      go_simp
      go_wp2
      go_ret
      exact ⟨rfl, HB.out⟩
theorem fnTxns_walk (o : Option Addr) (len cap : Nat) (w : World) (h : Code w o len) (hl0 : len ≤ maxLen) :
    Calls Try.prog 3 #[.slice o len cap] w fun e w' => e = .returned (.bool true) ∧ Below w.heap.size w w' :=
  fnTxns_over o len cap w hl0 (fun hl => drawNewTxn_any w o len cap h hl)
end Go.Proofs.Ytjimckfkbkfggaa
