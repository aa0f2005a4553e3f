/-
  Own text, merged of ScnL, ScnW.
-/
import Derived.Test.YtiikncbohnhcaaaGreatDoorPk9
namespace Go.Proofs.YtiikncbohnhcaaaGreatDoor
open Go.RowKit

theorem field_sc0 (c : Int) (o : Option Addr) (n k : Nat) (w : World) : (Instr.field 60 (.agg #[.int .i64 c, .slice o n k]) 0).run Tryz.prog w = .ok (.int .i64 c) w := by kernel_rfl
theorem field_sc1 (c : Int) (o : Option Addr) (n k : Nat) (w : World) : (Instr.field 60 (.agg #[.int .i64 c, .slice o n k]) 1).run Tryz.prog w = .ok (.slice o n k) w := by kernel_rfl
theorem field_is1 (c : Int) (o : Option Addr) (n k : Nat) (w : World) : (Instr.field 64 (.agg #[.int .i64 c, .slice o n k]) 1).run Tryz.prog w = .ok (.slice o n k) w := by kernel_rfl
/-- What stands while the law looks: the store that was drawn in its box, and what the scan told. -/
structure EnvT (w : World) (b0 b7 : Nat) (S : Sto) (v0 v1 v2 : Value) (c : Int) (n : Nat) (F : Nat → Int) (v7 : Value) (x : World) : Prop where
  below : Below w.heap.size w x
  laid : Laid x
  box : Blk3 x b0 v0 v1 v2
  st : St x 0 S v0 v1 v2
  k7 : Blk2 x b7 (.int .i64 c) v7
  r7 : Row x 0 2 n F v7
theorem EnvT.later {w : World} {b0 b7 : Nat} {S : Sto} {v0 v1 v2 : Value} {c : Int} {n : Nat} {F : Nat → Int} {v7 : Value} {x x' : World} (h : EnvT w b0 b7 S v0 v1 v2 c n F v7 x) (hb : Below x.heap.size x x') : EnvT w b0 b7 S v0 v1 v2 c n F v7 x' :=
  ⟨h.below.trans (hb.mono h.below.size), h.laid.later hb, h.box.later hb, h.st.later hb, h.k7.later hb, h.r7.later hb⟩
/-- .. and the keys. -/
def EnvS (w : World) (b0 b7 b10 : Nat) (S : Sto) (v0 v1 v2 : Value) (c : Int) (n : Nat) (F : Nat → Int) (v7 : Value) (L : List Int) (vk : Value) (x : World) : Prop := EnvT w b0 b7 S v0 v1 v2 c n F v7 x ∧ Blk2 x b10 (.int .i64 0) vk ∧ Ints x 0 vk L
theorem EnvS.later {w : World} {b0 b7 b10 : Nat} {S : Sto} {v0 v1 v2 : Value} {c : Int} {n : Nat} {F : Nat → Int} {v7 : Value} {L : List Int} {vk : Value} {x x' : World} (h : EnvS w b0 b7 b10 S v0 v1 v2 c n F v7 L vk x) (hb : Below x.heap.size x x') : EnvS w b0 b7 b10 S v0 v1 v2 c n F v7 L vk x' := ⟨h.1.later hb, h.2.1.later hb, h.2.2.later hb⟩
theorem EnvS.cells {w : World} {b0 b7 b10 : Nat} {S : Sto} {v0 v1 v2 : Value} {c : Int} {n : Nat} {F : Nat → Int} {v7 : Value} {L : List Int} {vk : Value} {x : World} (h : EnvS w b0 b7 b10 S v0 v1 v2 c n F v7 L vk x) :
    x.cell? ⟨b0, 0, none⟩ = some v0 ∧ x.cell? ⟨b0, 1, none⟩ = some v1 ∧ x.cell? ⟨b0, 2, none⟩ = some v2 ∧ x.cell? ⟨b7, 0, none⟩ = some (.int .i64 c) ∧ x.cell? ⟨b7, 1, none⟩ = some v7 ∧ x.cell? ⟨b10, 0, none⟩ = some (.int .i64 0) ∧ x.cell? ⟨b10, 1, none⟩ = some vk :=
  ⟨h.1.box.1.1, h.1.box.1.2.1, h.1.box.1.2.2, h.1.k7.1.1, h.1.k7.1.2, h.2.1.1.1, h.2.1.1.2⟩
/-- A cell, in a block that is there. -/
def CelS (x : World) (g o : Nat) (v : Value) : Prop := x.cell? ⟨g, o, none⟩ = some v ∧ g < x.heap.size
theorem CelS.later {x x' : World} {g o : Nat} {v : Value} (h : CelS x g o v) (hb : Below x.heap.size x x') : CelS x' g o v := ⟨(hb.cell (p := ⟨g, o, none⟩) h.2).trans h.1, Nat.lt_of_lt_of_le h.2 hb.size⟩
/-- What the law's draw answers. -/
def DrawnS (w : World) (e : Ending) (w' : World) : Prop := ∃ (S : Sto) (a0 : Option Addr) (c0 : Nat) (a1 : Option Addr) (c1 : Nat) (a2 : Option Addr) (c2 : Nat) (fr tu ts : Int), e = .returned (.tuple #[.agg #[.slice a0 S.nc c0, .slice a1 S.nl c1, .slice a2 S.nw c2], .int .i64 fr, .int .i64 tu, .int .i64 ts]) ∧ St w' 0 S (.slice a0 S.nc c0) (.slice a1 S.nl c1) (.slice a2 S.nw c2) ∧ Below w.heap.size w w'
theorem lwBigS_is (o : Option Addr) (len cap : Nat) (r : Bool) (w : World) (h : decide ((1048576 : Int) < (len : Int)) = r) :
    Calls Tryz.prog 7 #[.slice o len cap] w fun e w' => e = .returned (.bool r) ∧ w' = w := by
  go_enter Tryz.func7, Tryz.ntmps7
  go_wp2
  go_ret
  exact ⟨by first | rfl | (rw [← h]; rfl), rfl⟩
theorem hid_mkS {p : Prop} (h : p) : Hid p := h
/-- How many pairs have been met behind k keys. -/
noncomputable def cnK (S : Sto) (ts : Int) (L : List Int) (c : Int) (k : Nat) : Nat := if c = 0 then cnL S ts (L.take k) else 0
/-- What is read of a key: it is blocked, or there is nothing, or there is something. -/
def GetW3 (S : Sto) (key ts gc : Int) (gh : Bool) (gv : Int) : Prop := (blocks S.l S.nl key ts ∧ gc = 7 ∧ gh = false ∧ gv = 0) ∨ (¬ blocks S.l S.nl key ts ∧ rv S key ts = none ∧ gc = 0 ∧ gh = false ∧ gv = 0) ∨ (¬ blocks S.l S.nl key ts ∧ rv S key ts = some gv ∧ gc = 0 ∧ gh = true)
theorem getW3_of {S : Sto} {key ts gc : Int} {gh : Bool} {gv : Int} (hz : askF S key = 0) (ht : isTs ts) (h : GetAns S key ts gc gh gv) : GetW3 S key ts gc gh gv := by
  rcases h with ⟨h, _⟩ | ⟨_, h, _⟩ | ⟨_, _, hb, h1, h2, h3⟩ | ⟨_, _, hb, hn, h1, h2, h3⟩ | ⟨_, _, hb, i, j, hr, h1, h2, h3⟩
  · exact absurd hz h
  · exact absurd ht h
  · exact Or.inl ⟨hb, h1, h2, h3⟩
  · exact Or.inr (Or.inl ⟨hb, rv_none hn, h1, h2, h3⟩)
  · exact Or.inr (Or.inr ⟨hb, by rw [h3]; exact rv_some (storeF_zero (askF_zero hz).1).2.1 hr, h1, h2⟩)
set_option maxRecDepth 100000 in
set_option maxHeartbeats 16000000 in
theorem fnScans_over (o : Option Addr) (len cap : Nat) (w : World) (hL : Laid w) (hl0 : len ≤ maxLen) (hd : len ≤ 1048576 → Calls Tryz.prog 27 #[.slice o len cap] w (DrawnS w)) :
    Calls Tryz.prog 6 #[.slice o len cap] w fun e w' => e = .returned (.bool true) ∧ Below w.heap.size w w' := by
  have hml : maxLen = 9223372036854775807 := rfl
  by_cases hbig : (1048576 : Int) < len
  · have d : decide ((1048576 : Int) < (len : Int)) = true := decide_eq_true hbig
    go_enter Tryz.func6, Tryz.ntmps6
    go_wp2_with fail
    refine (lwBigS_is _ _ _ _ _ d).mono ?_
    rintro e w9 ⟨rfl, hw9⟩
    obtain rfl := hw9.symm
    go_wp2
    go_ret
    exact ⟨rfl, Below.refl _ _⟩
  have d : decide ((1048576 : Int) < (len : Int)) = false := decide_eq_false hbig
  have HD : Hid (Calls Tryz.prog 27 #[.slice o len cap] w (DrawnS w)) := hd (by omega)
  have HL : Hid (Laid w) := hL
  clear hd hbig hml hl0 hL
  go_enter Tryz.func6, Tryz.ntmps6
  go_wp2_with fail
  refine (lwBigS_is _ _ _ _ _ d).mono ?_
  rintro e w9 ⟨rfl, hw9⟩
  obtain rfl := hw9.symm
  clear hw9
  go_wp2_with fail
  refine HD.out.mono ?_
  rintro e y0 ⟨S, a0, c0, a1, c1, a2, c2, fr, tu, ts, rfl, hst, q1⟩
  have HB : Hid (Below w.heap.size w y0 ∧ St y0 0 S (.slice a0 S.nc c0) (.slice a1 S.nl c1) (.slice a2 S.nw c2)) := ⟨q1, hst⟩
  clear hst q1 HD d
  obtain ⟨c, n, F, hn, hA⟩ := ScanAns.get S fr tu ts
  have A : Hid (ScanAns S fr tu ts c n F) := hA
  clear hA
  have K0 : Hid (Blk3 (y0.alloc (.cells #[.slice a0 S.nc c0, .slice a1 S.nl c1, .slice a2 S.nw c2] 28)) y0.heap.size (.slice a0 S.nc c0) (.slice a1 S.nl c1) (.slice a2 S.nw c2)) := Blk3.new y0 _ _ _ _
  have HB : Hid (Below w.heap.size w (y0.alloc (.cells #[.slice a0 S.nc c0, .slice a1 S.nl c1, .slice a2 S.nw c2] 28)) ∧ St (y0.alloc (.cells #[.slice a0 S.nc c0, .slice a1 S.nl c1, .slice a2 S.nw c2] 28)) 0 S (.slice a0 S.nc c0) (.slice a1 S.nl c1) (.slice a2 S.nw c2)) := ⟨HB.out.1.alloc HB.out.1.size _, HB.out.2.alloc _⟩
  obtain ⟨⟨t0, t1, t2⟩, _⟩ := K0.out
  go_wp2_with fail
  generalize y0.alloc (.cells #[.slice a0 S.nc c0, .slice a1 S.nl c1, .slice a2 S.nw c2] 28) = x0 at HB K0 t0 t1 t2 ⊢
  obtain ⟨b0, hb0⟩ : ∃ b, y0.heap.size = b := ⟨_, rfl⟩
  rw [hb0] at K0 t0 t1 t2 ⊢
  clear hb0
  refine (implScanAt_is S _ _ _ fr tu ts c n F 0 _ HB.out.2 A.out (HL.out.later HB.out.1)).mono ?_
  rintro e y1 ⟨g7, p7, rfl, r7, _, q⟩
  have qa : Below x0.heap.size x0 (y1.alloc (.cells #[.int .i64 c, .slice g7 n p7] 60)) := q.alloc q.size _
  have HE : Hid (EnvT w b0 y1.heap.size S (.slice a0 S.nc c0) (.slice a1 S.nl c1) (.slice a2 S.nw c2) c n F (.slice g7 n p7) (y1.alloc (.cells #[.int .i64 c, .slice g7 n p7] 60))) := ⟨HB.out.1.trans (qa.mono HB.out.1.size), HL.out.later (HB.out.1.trans (qa.mono HB.out.1.size)), K0.out.later qa, HB.out.2.later qa, Blk2.new y1 _ _ _, (r7.mono (Nat.zero_le _)).alloc _⟩
  clear r7 q qa t0 t1 t2 HB K0
  go_upto_region 5 with fail
  generalize y1.alloc (.cells #[.int .i64 c, .slice g7 n p7] 60) = x1 at HE ⊢
  obtain ⟨b7, hb7⟩ : ∃ b, y1.heap.size = b := ⟨_, rfl⟩
  rw [hb7] at HE ⊢
  clear hb7
  by_cases hway : c = 0 ∨ c = 7
  case neg =>
    have d0 : (c != 0) = true := bne_iff_ne.2 (fun e => hway (Or.inl e))
    have d7 : (c != 7) = true := bne_iff_ne.2 (fun e => hway (Or.inr e))
    obtain ⟨⟨t0, t1⟩, _⟩ := HE.out.k7
    clear hway
    go_wp2_with fail
    have f0 := field_sc0
    have hS0 : EnvT w b0 b7 S (.slice a0 S.nc c0) (.slice a1 S.nl c1) (.slice a2 S.nw c2) c n F (.slice g7 n p7) x1.drew := HE.out.later (Below.drew (Below.refl _ _))
    refine wp_region_held_drew (S := EnvT w b0 b7 S (.slice a0 S.nc c0) (.slice a1 S.nl c1) (.slice a2 S.nw c2) c n F (.slice g7 n p7)) (by kernel_rfl) hS0 (fun hS => ?_)
    clear hS0 HE t0 t1
    generalize x1.drew = z0 at hS ⊢
    refine tkH 0 ?_ hS (fun wx hx => ?_) ?_; rotate_left
    · obtain ⟨⟨j0, j1, j2⟩, _⟩ := hx.box; obtain ⟨⟨j3, j4⟩, _⟩ := hx.k7; go_simp; try with_reducible rfl
    refine tkH 1 ?_ hS (fun wx hx => ?_) ?_; rotate_left
    · obtain ⟨⟨j0, j1, j2⟩, _⟩ := hx.box; obtain ⟨⟨j3, j4⟩, _⟩ := hx.k7; go_simp; try with_reducible rfl
    try simp only [Act.put, List.getElem_toArray, List.getElem_cons_zero, List.getElem_cons_succ, List.setIfInBounds_toArray, List.set_cons_succ, List.set_cons_zero]
    refine tkH 2 ?_ hS (fun wx hx => ?_) ?_; rotate_left
    · obtain ⟨⟨j0, j1, j2⟩, _⟩ := hx.box; obtain ⟨⟨j3, j4⟩, _⟩ := hx.k7; go_simp; try with_reducible rfl
    refine tkH 3 ?_ hS (fun wx hx => ?_) ?_; rotate_left
    · obtain ⟨⟨j0, j1, j2⟩, _⟩ := hx.box; obtain ⟨⟨j3, j4⟩, _⟩ := hx.k7; go_simp; try with_reducible rfl
    refine tkH 6 ?_ hS (fun wx hx => ?_) ?_; rotate_left
    · obtain ⟨⟨j0, j1, j2⟩, _⟩ := hx.box; obtain ⟨⟨j3, j4⟩, _⟩ := hx.k7; go_simp; try with_reducible rfl
    try simp only [Act.put, List.getElem_toArray, List.getElem_cons_zero, List.getElem_cons_succ, List.setIfInBounds_toArray, List.set_cons_succ, List.set_cons_zero]
    refine tkH 7 ?_ hS (fun wx hx => ?_) ?_; rotate_left
    · obtain ⟨⟨j0, j1, j2⟩, _⟩ := hx.box; obtain ⟨⟨j3, j4⟩, _⟩ := hx.k7; go_simp; try with_reducible rfl
    refine rdH 4 (fun K hK => ?_)
    go_simp
    go_wp2_with fail
    refine (specScanAt_is S _ _ _ fr tu ts c n F 0 _ hS.st A.out).mono ?_
    rintro e z1 ⟨ga, pa, rfl, _, _, q⟩
    go_wp2_with fail
    refine hK.out _ _ (hS.later q) (fun hS => ?_)
    clear hK K q
    refine tkH 5 ?_ hS (fun wx hx => ?_) ?_; rotate_left
    · obtain ⟨⟨j0, j1, j2⟩, _⟩ := hx.box; obtain ⟨⟨j3, j4⟩, _⟩ := hx.k7; go_simp; try with_reducible rfl
    refine tkH 8 ?_ hS (fun wx hx => ?_) ?_; rotate_left
    · obtain ⟨⟨j0, j1, j2⟩, _⟩ := hx.box; obtain ⟨⟨j3, j4⟩, _⟩ := hx.k7; go_simp; try with_reducible rfl
    try simp only [Act.put, List.getElem_toArray, List.getElem_cons_zero, List.getElem_cons_succ, List.setIfInBounds_toArray, List.set_cons_succ, List.set_cons_zero]
    refine tkH 9 ?_ hS (fun wx hx => ?_) ?_; rotate_left
    · obtain ⟨⟨j0, j1, j2⟩, _⟩ := hx.box; obtain ⟨⟨j3, j4⟩, _⟩ := hx.k7; go_simp; try with_reducible rfl
    refine wpAnyH_done (by kernel_rfl) ?_ _
    have HB : Hid (Below w.heap.size w z1) := hS.below
    clear hS f0
    go_simp
    go_wp2
    go_ret
    exact ⟨rfl, HB.out⟩
  go_cut [34] (fun s wx => s = .bool false ∧ Hid (EnvT w b0 b7 S (.slice a0 S.nc c0) (.slice a1 S.nl c1) (.slice a2 S.nw c2) c n F (.slice g7 n p7) wx))
  case first =>
    obtain ⟨⟨t0, t1⟩, _⟩ := HE.out.k7
    rcases hway with h | h
    · have d0 : (c != 0) = false := by rw [h]; rfl
      clear h
      go_wp2_with fail
      go_meet
      case rel => exact ⟨rfl, HE⟩
    · have d0 : (c != 0) = true := by rw [h]; rfl
      have d7 : (c != 7) = false := by rw [h]; rfl
      clear h
      go_wp2_with fail
      go_meet
      case rel => exact ⟨rfl, HE⟩
  case rest =>
  clear HE
  obtain ⟨rfl, HE⟩ := hcut
  obtain ⟨hz, hfit, hcc⟩ : storeF S = 0 ∧ scanFits fr tu ts ∧ ((c = 7 ∧ anyBlocks S ts fr (tu - fr).toNat) ∨ (c = 0 ∧ ¬ anyBlocks S ts fr (tu - fr).toNat ∧ n = scanN S ts fr (tu - fr).toNat ∧ F = fun p => (scanL S ts fr (tu - fr).toNat).getD p 0)) := by
    rcases A.out with ⟨h, e, _⟩ | ⟨_, _, e, _⟩ | ⟨hz, hf, hb, e, _⟩ | ⟨hz, hf, hb, e, h1, h2⟩
    · exact absurd (e.symm) (by rcases hway with q | q <;> rw [q]; exact h; exact storeF_ne7 S)
    · omega
    · exact ⟨hz, hf, Or.inl ⟨e, hb⟩⟩
    · exact ⟨hz, hf, Or.inr ⟨e, hb, h1, h2⟩⟩
  rw [any_in hz, (scan_flat hz ts fr _).1, (scan_flat hz ts fr _).2] at hcc
  have HZ : Hid (storeF S = 0) := hz
  have HT : Hid (isTs ts) := hfit.2.2
  have HF : Hid (∀ x, x ∈ kl fr (tu - fr).toNat → faultOf x = 0) := fun x hx => (kl_of hx).2.2
  have HN : Hid ((kl fr (tu - fr).toNat).length ≤ 200) := Nat.le_trans (kl_le _ _) (by have := hfit.1; have := hfit.2.1; omega)
  have HQ : Hid ((0 ≤ fr ∧ fr ≤ 200) ∧ (0 ≤ tu ∧ tu ≤ 200)) := ⟨hfit.1, hfit.2.1⟩
  have HC : Hid ((c = 7 ∧ ∃ x, x ∈ kl fr (tu - fr).toNat ∧ blocks S.l S.nl x ts) ∨ (c = 0 ∧ (¬ ∃ x, x ∈ kl fr (tu - fr).toNat ∧ blocks S.l S.nl x ts) ∧ n = cnL S ts (kl fr (tu - fr).toNat) ∧ F = fun p => ((kl fr (tu - fr).toNat).flatMap (prL S ts)).getD p 0)) := hcc
  clear hz hfit hcc hway
  go_wp2_with fail
  refine (implKeysIn_ok fr tu _ HQ.out.1.1 HQ.out.1.2 HQ.out.2.1 HQ.out.2.2).mono ?_
  rintro e y2 ⟨vk, rfl, ik, q⟩
  have KS : Hid (∀ x, Calls Tryz.prog 32 #[.int .i64 fr, .int .i64 tu] x fun e w' => ∃ v, e = .returned (.agg #[.int .i64 0, v]) ∧ Ints w' x.heap.size v (kl fr (tu - fr).toNat) ∧ Below x.heap.size x w') := fun x => specKeysIn_ok fr tu x HQ.out.1.1 HQ.out.1.2 HQ.out.2.1 HQ.out.2.2
  generalize kl fr (tu - fr).toNat = L at HF HN HC ik KS
  obtain ⟨ak, ck, rfl⟩ := ik.form
  have qa : Below wc.heap.size wc (y2.alloc (.cells #[.int .i64 0, .slice ak L.length ck] 64)) := q.alloc q.size _
  have HE : Hid (EnvS w b0 b7 y2.heap.size S (.slice a0 S.nc c0) (.slice a1 S.nl c1) (.slice a2 S.nw c2) c n F (.slice g7 n p7) L (.slice ak L.length ck) (y2.alloc (.cells #[.int .i64 0, .slice ak L.length ck] 64))) := ⟨HE.out.later qa, Blk2.new y2 _ _ _, (ik.mono (Nat.zero_le _)).alloc _⟩
  clear ik q qa
  go_wp2
  generalize y2.alloc (.cells #[.int .i64 0, .slice ak L.length ck] 64) = x2 at HE ⊢
  obtain ⟨b10, hb10⟩ : ∃ b, y2.heap.size = b := ⟨_, rfl⟩
  rw [hb10] at HE ⊢
  clear hb10
  go_loopw [8, 9, 11] (fun nn bb i wr => ∃ k : Nat, k ≤ L.length ∧ nn = .int .i64 (cnK S ts L c k : Nat) ∧ bb = .bool (blK S ts L k) ∧ i = .int .i64 k ∧ Hid (EnvS w b0 b7 b10 S (.slice a0 S.nc c0) (.slice a1 S.nl c1) (.slice a2 S.nw c2) c n F (.slice g7 n p7) L (.slice ak L.length ck) wr)) (fun _ _ i _ => L.length - (intOf i).toNat)
  case atStart => exact ⟨0, Nat.zero_le _, by unfold cnK cnL; simp, by rw [blK_zero], rfl, HE⟩
  case round =>
    clear HE
    obtain ⟨k, hk, rfl, rfl, rfl, HE⟩ := hrel
    have hN := HN.out
    by_cases hlt : k < L.length
    case pos =>
      obtain ⟨gk, rfl, _, x0, _⟩ := HE.out.2.2.at hlt
      have hgk := World.block_lt_of_cell? wr _ x0
      obtain ⟨key, hkey⟩ : ∃ x, L[k] = x := ⟨_, rfl⟩
      rw [hkey] at x0
      have HM : Hid (L[k] = key) := hkey
      have hmem : key ∈ L := by rw [← hkey]; exact List.getElem_mem _
      have hask : askF S key = 0 := by unfold askF; rw [if_neg (fun q => q HZ.out)]; exact HF.out key hmem
      obtain ⟨gc, gh, gv, hG⟩ := GetAns.get S key ts
      have AG : Hid (GetAns S key ts gc gh gv) := hG
      have AW : Hid (GetW3 S key ts gc gh gv) := getW3_of hask HT.out hG
      have HA : Hid (askF S key = 0 ∧ key ∈ L) := ⟨hask, hmem⟩
      have H0 : Hid ((EnvS w b0 b7 b10 S (.slice a0 S.nc c0) (.slice a1 S.nl c1) (.slice a2 S.nw c2) c n F (.slice g7 n p7) L (.slice (some ⟨gk, 0, none⟩) L.length ck) wr.drew) ∧ CelS wr.drew gk k (.int .i64 key)) := ⟨HE.out.later (Below.drew (Below.refl _ _)), x0, hgk⟩
      obtain ⟨q0, hq0⟩ : ∃ q, cnK S ts L c k = q := ⟨_, rfl⟩
      obtain ⟨bb, hbb⟩ : ∃ q, blK S ts L k = q := ⟨_, rfl⟩
      rw [hq0, hbb]
      have HK : Hid (cnK S ts L c k = q0 ∧ blK S ts L k = bb) := ⟨hq0, hbb⟩
      obtain ⟨j0, j1, j2, j3, j4, j5, j6⟩ := HE.out.cells
      clear hG hask hmem hkey hq0 hbb x0 hgk
      go_upto_region 13 with fail
      clear j0 j1 j2 j3 j4 j5 j6 HE
      go_cut [12] (fun s wx => ∃ bg, s = .pointer (some ⟨bg, 0, none⟩) ∧ Hid ((EnvS w b0 b7 b10 S (.slice a0 S.nc c0) (.slice a1 S.nl c1) (.slice a2 S.nw c2) c n F (.slice g7 n p7) L (.slice (some ⟨gk, 0, none⟩) L.length ck) wx ∧ CelS wx gk k (.int .i64 key)) ∧ Blk3 wx bg (.int .i64 gc) (.bool gh) (.int .i64 gv)))
      case first =>
        refine wp_region_held_drew (S := fun x => EnvS w b0 b7 b10 S (.slice a0 S.nc c0) (.slice a1 S.nl c1) (.slice a2 S.nw c2) c n F (.slice g7 n p7) L (.slice (some ⟨gk, 0, none⟩) L.length ck) x ∧ CelS x gk k (.int .i64 key)) (by kernel_rfl) H0.out (fun hS => ?_)
        generalize wr.drew = z0 at H0 hS ⊢
        refine tkH 0 ?_ hS (fun wx hx => ?_) ?_; rotate_left
        · obtain ⟨j0, j1, j2, j3, j4, j5, j6⟩ := hx.1.cells; obtain ⟨j7, _⟩ := hx.2; go_simp; try with_reducible rfl
        refine tkH 1 ?_ hS (fun wx hx => ?_) ?_; rotate_left
        · obtain ⟨j0, j1, j2, j3, j4, j5, j6⟩ := hx.1.cells; obtain ⟨j7, _⟩ := hx.2; go_simp; try with_reducible rfl
        refine tkH 2 ?_ hS (fun wx hx => ?_) ?_; rotate_left
        · obtain ⟨j0, j1, j2, j3, j4, j5, j6⟩ := hx.1.cells; obtain ⟨j7, _⟩ := hx.2; go_simp; try with_reducible rfl
        refine tkH 3 ?_ hS (fun wx hx => ?_) ?_; rotate_left
        · obtain ⟨j0, j1, j2, j3, j4, j5, j6⟩ := hx.1.cells; obtain ⟨j7, _⟩ := hx.2; go_simp; try with_reducible rfl
        refine tkH 4 ?_ hS (fun wx hx => ?_) ?_; rotate_left
        · obtain ⟨j0, j1, j2, j3, j4, j5, j6⟩ := hx.1.cells; obtain ⟨j7, _⟩ := hx.2; go_simp; try with_reducible rfl
        refine tkH 5 ?_ hS (fun wx hx => ?_) ?_; rotate_left
        · obtain ⟨j0, j1, j2, j3, j4, j5, j6⟩ := hx.1.cells; obtain ⟨j7, _⟩ := hx.2; go_simp; try with_reducible rfl
        refine tkH 6 ?_ hS (fun wx hx => ?_) ?_; rotate_left
        · obtain ⟨j0, j1, j2, j3, j4, j5, j6⟩ := hx.1.cells; obtain ⟨j7, _⟩ := hx.2; go_simp; try with_reducible rfl
        refine wpAnyH_ready (rs := [7, 8]) (by kernel_rfl) (by simp) ?_
        refine AllReadyH.cons rfl (fun K hK => ?_) (AllReadyH.cons rfl (fun K hK => ?_) AllReadyH.nil)
        · go_simp
          go_wp2_with fail
          refine (implGetAt_is S _ _ _ key ts gc gh gv 0 _ hS.1.1.st hS.1.1.laid AG.out).mono ?_
          rintro e z1 ⟨rfl, q⟩
          have HZ1 : Hid (Below z0.heap.size z0 z1) := q
          go_wp2_with fail
          refine hK.out _ _ ⟨hS.1.later q, hS.2.later q⟩ (fun hS => ?_)
          clear hK K q
          refine rdH 8 (fun K hK => ?_)
          go_simp
          refine hK.out _ _ ⟨hS.1.later (below_alloc _ _), hS.2.later (below_alloc _ _)⟩ (fun hS => ?_)
          clear hK K
          obtain ⟨⟨r0, r1, r2⟩, f0, f1, f2⟩ := Blk3.new z1 (.int .i64 0) (.bool false) (.int .i64 0) 45
          have qf : Below z0.heap.size z0 (z1.alloc (.cells #[.int .i64 gc, .bool gh, .int .i64 gv] 45)) := HZ1.out.alloc HZ1.out.size _
          have HR : Hid (((EnvS w b0 b7 b10 S (.slice a0 S.nc c0) (.slice a1 S.nl c1) (.slice a2 S.nw c2) c n F (.slice g7 n p7) L (.slice (some ⟨gk, 0, none⟩) L.length ck) (z1.alloc (.cells #[.int .i64 gc, .bool gh, .int .i64 gv] 45))) ∧ CelS (z1.alloc (.cells #[.int .i64 gc, .bool gh, .int .i64 gv] 45)) gk k (.int .i64 key)) ∧ Blk3 (z1.alloc (.cells #[.int .i64 gc, .bool gh, .int .i64 gv] 45)) z1.heap.size (.int .i64 gc) (.bool gh) (.int .i64 gv)) := ⟨⟨H0.out.1.later qf, H0.out.2.later qf⟩, Blk3.new z1 _ _ _ _⟩
          refine rdH 9 (fun K hK => ?_)
          go_simp
          refine hK.out _ _ HR.out.1 (fun hS => ?_)
          clear hK K r0 r1 r2 f0 f1 f2 qf
          refine wpAnyH_done (by kernel_rfl) ?_ _
          clear hS
          go_simp
          go_wp2_with fail
          go_meet
          case rel => exact ⟨_, rfl, HR⟩
        · go_simp
          refine hK.out _ _ ⟨hS.1.later (below_alloc _ _), hS.2.later (below_alloc _ _)⟩ (fun hS => ?_)
          clear hK K
          refine rdH 7 (fun K hK => ?_)
          go_simp
          go_wp2_with fail
          refine (implGetAt_is S _ _ _ key ts gc gh gv 0 _ hS.1.1.st hS.1.1.laid AG.out).mono ?_
          rintro e z2 ⟨rfl, q⟩
          have HZ1 : Hid (Below z0.heap.size z0 z2 ∧ Blk3 z2 z0.heap.size (.int .i64 0) (.bool false) (.int .i64 0)) := ⟨(below_alloc z0 _).trans (q.mono (by simp)), (Blk3.new z0 _ _ _ _).later q⟩
          go_wp2_with fail
          refine hK.out _ _ ⟨hS.1.later q, hS.2.later q⟩ (fun hS => ?_)
          clear hK K q
          obtain ⟨⟨r0, r1, r2⟩, f0, f1, f2⟩ := HZ1.out.2
          have qf : Below z0.heap.size z0 (((z2.setCell ⟨z0.heap.size, 0, none⟩ (.int .i64 gc)).setCell ⟨z0.heap.size, 1, none⟩ (.bool gh)).setCell ⟨z0.heap.size, 2, none⟩ (.int .i64 gv)) := ((HZ1.out.1.setCell (Nat.le_refl _) _).setCell (Nat.le_refl _) _).setCell (Nat.le_refl _) _
          have HR : Hid (((EnvS w b0 b7 b10 S (.slice a0 S.nc c0) (.slice a1 S.nl c1) (.slice a2 S.nw c2) c n F (.slice g7 n p7) L (.slice (some ⟨gk, 0, none⟩) L.length ck) (((z2.setCell ⟨z0.heap.size, 0, none⟩ (.int .i64 gc)).setCell ⟨z0.heap.size, 1, none⟩ (.bool gh)).setCell ⟨z0.heap.size, 2, none⟩ (.int .i64 gv))) ∧ CelS (((z2.setCell ⟨z0.heap.size, 0, none⟩ (.int .i64 gc)).setCell ⟨z0.heap.size, 1, none⟩ (.bool gh)).setCell ⟨z0.heap.size, 2, none⟩ (.int .i64 gv)) gk k (.int .i64 key)) ∧ Blk3 (((z2.setCell ⟨z0.heap.size, 0, none⟩ (.int .i64 gc)).setCell ⟨z0.heap.size, 1, none⟩ (.bool gh)).setCell ⟨z0.heap.size, 2, none⟩ (.int .i64 gv)) z0.heap.size (.int .i64 gc) (.bool gh) (.int .i64 gv)) := ⟨⟨H0.out.1.later qf, H0.out.2.later qf⟩, ((HZ1.out.2.set0 _).set1 _).set2 _⟩
          refine rdH 9 (fun K hK => ?_)
          go_simp
          refine hK.out _ _ HR.out.1 (fun hS => ?_)
          clear hK K r0 r1 r2 f0 f1 f2 qf
          refine wpAnyH_done (by kernel_rfl) ?_ _
          clear hS
          go_simp
          go_wp2_with fail
          go_meet
          case rel => exact ⟨_, rfl, HR⟩
      case rest =>
      clear H0
      obtain ⟨bg, rfl, HX⟩ := hcut
      obtain ⟨b', hb'⟩ : ∃ q, blK S ts L (k + 1) = q := ⟨_, rfl⟩
      have HB' : Hid ((blK S ts L (k + 1) = b') ∧ (blocks S.l S.nl key ts → b' = true) ∧ (¬ blocks S.l S.nl key ts → b' = bb)) := ⟨hb', fun h => hb'.symm.trans (blK_yes hlt (by rw [HM.out]; exact h)), fun h => hb'.symm.trans ((blK_no hlt (by rw [HM.out]; exact h)).trans HK.out.2)⟩
      clear hb'
      go_upto_region 14 with fail
      go_cut [9] (fun s wx => s = .bool b' ∧ Hid ((EnvS w b0 b7 b10 S (.slice a0 S.nc c0) (.slice a1 S.nl c1) (.slice a2 S.nw c2) c n F (.slice g7 n p7) L (.slice (some ⟨gk, 0, none⟩) L.length ck) wx ∧ CelS wx gk k (.int .i64 key)) ∧ Blk3 wx bg (.int .i64 gc) (.bool gh) (.int .i64 gv)))
      case first =>
        obtain ⟨⟨t0, t1, t2⟩, _⟩ := HX.out.2
        have hb2 := HB'.out.2
        rcases AW.out with ⟨hb, rfl, rfl, rfl⟩ | ⟨hb, _, rfl, rfl, rfl⟩ | ⟨hb, _, rfl, rfl⟩
        · replace hb2 := hb2.1 hb
          subst hb2
          clear hb
          cases bb with
          | true =>
            go_wp2_with fail
            go_meet
            case rel => exact ⟨rfl, HX⟩
          | false =>
            go_wp2_with fail
            go_meet
            case rel => exact ⟨rfl, HX⟩
        · replace hb2 := hb2.2 hb
          subst hb2
          clear hb
          cases b' with
          | true =>
            go_wp2_with fail
            go_meet
            case rel => exact ⟨rfl, HX⟩
          | false =>
            go_wp2_with fail
            go_meet
            case rel => exact ⟨rfl, HX⟩
        · replace hb2 := hb2.2 hb
          subst hb2
          clear hb
          cases b' with
          | true =>
            go_wp2_with fail
            go_meet
            case rel => exact ⟨rfl, HX⟩
          | false =>
            go_wp2_with fail
            go_meet
            case rel => exact ⟨rfl, HX⟩
      case rest =>
      clear HX
      obtain ⟨rfl, HX⟩ := hcut
      go_upto_region 15 with fail
      go_cut [79] (fun s wx => s = .bool false ∧ Hid ((EnvS w b0 b7 b10 S (.slice a0 S.nc c0) (.slice a1 S.nl c1) (.slice a2 S.nw c2) c n F (.slice g7 n p7) L (.slice (some ⟨gk, 0, none⟩) L.length ck) wx ∧ CelS wx gk k (.int .i64 key)) ∧ Blk3 wx bg (.int .i64 gc) (.bool gh) (.int .i64 gv)))
      case first =>
        have hR : ∃ r : Bool, (r = true ↔ blockedF S key ts) ∧ (gc == 7) = r ∧ (gc = 7 ∧ r = true ∨ gc = 0 ∧ r = false) := by
          rcases AW.out with ⟨hb, h, _, _⟩ | ⟨hb, _, h, _, _⟩ | ⟨hb, _, h, _⟩
          · exact ⟨true, ⟨fun _ => ⟨HA.out.1, hb⟩, fun _ => rfl⟩, by rw [h]; rfl, Or.inl ⟨h, rfl⟩⟩
          · exact ⟨false, ⟨fun q => absurd q (by decide), fun q => absurd q.2 hb⟩, by rw [h]; rfl, Or.inr ⟨h, rfl⟩⟩
          · exact ⟨false, ⟨fun q => absurd q (by decide), fun q => absurd q.2 hb⟩, by rw [h]; rfl, Or.inr ⟨h, rfl⟩⟩
        obtain ⟨r, hr, hg, _⟩ := hR
        have HR : Hid (r = true ↔ blockedF S key ts) := hr
        clear hr
        have hS0 : (fun x => EnvS w b0 b7 b10 S (.slice a0 S.nc c0) (.slice a1 S.nl c1) (.slice a2 S.nw c2) c n F (.slice g7 n p7) L (.slice (some ⟨gk, 0, none⟩) L.length ck) x ∧ CelS x gk k (.int .i64 key) ∧ Blk3 x bg (.int .i64 gc) (.bool gh) (.int .i64 gv)) wc.drew := ⟨HX.out.1.1.later (Below.drew (Below.refl _ _)), HX.out.1.2.later (Below.drew (Below.refl _ _)), HX.out.2.later (Below.drew (Below.refl _ _))⟩
        refine wp_region_held_drew (S := fun x => EnvS w b0 b7 b10 S (.slice a0 S.nc c0) (.slice a1 S.nl c1) (.slice a2 S.nw c2) c n F (.slice g7 n p7) L (.slice (some ⟨gk, 0, none⟩) L.length ck) x ∧ CelS x gk k (.int .i64 key) ∧ Blk3 x bg (.int .i64 gc) (.bool gh) (.int .i64 gv)) (by kernel_rfl) hS0 (fun hS => ?_)
        clear hS0 HX
        generalize wc.drew = z0 at hS ⊢
        refine tkH 0 ?_ hS (fun wx hx => ?_) ?_; rotate_left
        · obtain ⟨j0, j1, j2, j3, j4, j5, j6⟩ := hx.1.cells; obtain ⟨j7, _⟩ := hx.2.1; obtain ⟨⟨j8, j9, ja⟩, _⟩ := hx.2.2; go_simp; try with_reducible rfl
        refine tkH 1 ?_ hS (fun wx hx => ?_) ?_; rotate_left
        · obtain ⟨j0, j1, j2, j3, j4, j5, j6⟩ := hx.1.cells; obtain ⟨j7, _⟩ := hx.2.1; obtain ⟨⟨j8, j9, ja⟩, _⟩ := hx.2.2; go_simp; try with_reducible rfl
        try simp only [Act.put, List.getElem_toArray, List.getElem_cons_zero, List.getElem_cons_succ, List.setIfInBounds_toArray, List.set_cons_succ, List.set_cons_zero]
        refine tkH 2 ?_ hS (fun wx hx => ?_) ?_; rotate_left
        · obtain ⟨j0, j1, j2, j3, j4, j5, j6⟩ := hx.1.cells; obtain ⟨j7, _⟩ := hx.2.1; obtain ⟨⟨j8, j9, ja⟩, _⟩ := hx.2.2; go_simp; try with_reducible rfl
        refine tkH 3 ?_ hS (fun wx hx => ?_) ?_; rotate_left
        · obtain ⟨j0, j1, j2, j3, j4, j5, j6⟩ := hx.1.cells; obtain ⟨j7, _⟩ := hx.2.1; obtain ⟨⟨j8, j9, ja⟩, _⟩ := hx.2.2; go_simp; try with_reducible rfl
        refine tkH 4 ?_ hS (fun wx hx => ?_) ?_; rotate_left
        · obtain ⟨j0, j1, j2, j3, j4, j5, j6⟩ := hx.1.cells; obtain ⟨j7, _⟩ := hx.2.1; obtain ⟨⟨j8, j9, ja⟩, _⟩ := hx.2.2; go_simp; try with_reducible rfl
        try simp only [Act.put, List.getElem_toArray, List.getElem_cons_zero, List.getElem_cons_succ, List.setIfInBounds_toArray, List.set_cons_succ, List.set_cons_zero]
        refine tkH 5 ?_ hS (fun wx hx => ?_) ?_; rotate_left
        · obtain ⟨j0, j1, j2, j3, j4, j5, j6⟩ := hx.1.cells; obtain ⟨j7, _⟩ := hx.2.1; obtain ⟨⟨j8, j9, ja⟩, _⟩ := hx.2.2; go_simp; try with_reducible rfl
        refine tkH 6 ?_ hS (fun wx hx => ?_) ?_; rotate_left
        · obtain ⟨j0, j1, j2, j3, j4, j5, j6⟩ := hx.1.cells; obtain ⟨j7, _⟩ := hx.2.1; obtain ⟨⟨j8, j9, ja⟩, _⟩ := hx.2.2; go_simp; try with_reducible rfl
        refine tkH 7 ?_ hS (fun wx hx => ?_) ?_; rotate_left
        · obtain ⟨j0, j1, j2, j3, j4, j5, j6⟩ := hx.1.cells; obtain ⟨j7, _⟩ := hx.2.1; obtain ⟨⟨j8, j9, ja⟩, _⟩ := hx.2.2; go_simp; try with_reducible rfl
        try simp only [Act.put, List.getElem_toArray, List.getElem_cons_zero, List.getElem_cons_succ, List.setIfInBounds_toArray, List.set_cons_succ, List.set_cons_zero]
        refine tkH 8 ?_ hS (fun wx hx => ?_) ?_; rotate_left
        · obtain ⟨j0, j1, j2, j3, j4, j5, j6⟩ := hx.1.cells; obtain ⟨j7, _⟩ := hx.2.1; obtain ⟨⟨j8, j9, ja⟩, _⟩ := hx.2.2; go_simp; try with_reducible rfl
        refine tkH 9 ?_ hS (fun wx hx => ?_) ?_; rotate_left
        · obtain ⟨j0, j1, j2, j3, j4, j5, j6⟩ := hx.1.cells; obtain ⟨j7, _⟩ := hx.2.1; obtain ⟨⟨j8, j9, ja⟩, _⟩ := hx.2.2; go_simp; try with_reducible rfl
        refine rdH 10 (fun K hK => ?_)
        go_simp
        go_wp2_with fail
        refine (implBlockedAt_is S _ _ _ key ts r 0 _ hS.1.1.st HR.out).mono ?_
        rintro e z1 ⟨rfl, q⟩
        go_wp2_with fail
        refine hK.out _ _ ⟨hS.1.later q, hS.2.1.later q, hS.2.2.later q⟩ (fun hS => ?_)
        clear hK K q
        refine tkH 11 ?_ hS (fun wx hx => ?_) ?_; rotate_left
        · obtain ⟨j0, j1, j2, j3, j4, j5, j6⟩ := hx.1.cells; obtain ⟨j7, _⟩ := hx.2.1; obtain ⟨⟨j8, j9, ja⟩, _⟩ := hx.2.2; go_simp; try with_reducible rfl
        refine wpAnyH_done (by kernel_rfl) ?_ _
        have HX := hid_mkS (And.intro (And.intro hS.1 hS.2.1) hS.2.2)
        clear hS
        go_simp
        go_wp2_with fail
        go_meet
        case rel => exact ⟨by simp, HX⟩
      case rest =>
      clear HX
      obtain ⟨rfl, HX⟩ := hcut
      obtain ⟨j0, j1, j2, j3, j4, j5, j6⟩ := HX.out.1.1.cells
      obtain ⟨⟨t0, t1, t2⟩, _⟩ := HX.out.2
      have hstep := cnL_step (S := S) (ts := ts) hlt
      rw [HM.out] at hstep
      have hfin : EnvS w b0 b7 b10 S (.slice a0 S.nc c0) (.slice a1 S.nl c1) (.slice a2 S.nw c2) c n F (.slice g7 n p7) L (.slice (some ⟨gk, 0, none⟩) L.length ck) wc := HX.out.1.1
      have HFN := hid_mkS hfin
      clear hfin
      rcases AW.out with ⟨hb, rfl, rfl, rfl⟩ | ⟨hb, hv, rfl, rfl, rfl⟩ | ⟨hb, hv, rfl, rfl⟩
      · have hcn : cnK S ts L c (k + 1) = q0 := by
          rcases HC.out with ⟨e, _⟩ | ⟨_, e, _⟩
          · rw [← HK.out.1]; unfold cnK; rw [e]; rfl
          · exact absurd ⟨key, HA.out.2, hb⟩ e
        clear hb hstep
        go_wp2
        go_roundw
        case rel => exact ⟨k + 1, by omega, by rw [hcn], by rw [HB'.out.1], by go_num, HFN⟩
        case measure => simp [intOf]; omega
      · have hcn : cnK S ts L c (k + 1) = q0 := by
          rw [← HK.out.1]
          unfold cnK
          rw [hstep.2 hv]
        clear hb hv hstep
        go_wp2
        go_roundw
        case rel => exact ⟨k + 1, by omega, by rw [hcn], by rw [HB'.out.1], by go_num, HFN⟩
        case measure => simp [intOf]; omega
      · rcases HC.out with ⟨e, _⟩ | ⟨e, hnb, hn', hF'⟩
        · have hcn : cnK S ts L c (k + 1) = q0 := by
            rw [← HK.out.1]; unfold cnK; rw [e]; rfl
          have d0 : (c == 0) = false := by rw [e]; rfl
          clear hb hv hstep e
          go_wp2
          go_roundw
          case rel => exact ⟨k + 1, by omega, by rw [hcn], by rw [HB'.out.1], by go_num, HFN⟩
          case measure => simp [intOf]; omega
        · obtain ⟨s1, s2, s3, s4⟩ := hstep.1 gv hv
          have hq : cnL S ts (L.take k) = q0 := by rw [← HK.out.1]; unfold cnK; rw [if_pos e]
          have hcn : cnK S ts L c (k + 1) = q0 + 1 := by unfold cnK; rw [if_pos e, s1, hq]
          rw [hq] at s2 s3 s4
          have hqn : q0 < n := by rw [hn']; exact s2
          obtain ⟨gp, op, rfl, _, hgp, hu⟩ := HX.out.1.1.1.r7.at hqn
          have u0 := hu 0 (by decide)
          have u1 := hu 1 (by decide)
          simp only [Nat.add_zero] at u0
          clear hu
          rw [hF'] at u0 u1
          dsimp only at u0 u1
          rw [s3] at u0
          rw [s4] at u1
          have d0 : (c == 0) = true := by rw [e]; rfl
          have hx7 := HX.out.1.2.1
          clear hb hv hstep e hnb hn' hF' s1 s2 s3 s4 hq
          go_wp2_with fail
          go_quiet (fail)
          go_wp2
          go_roundw
          case rel => exact ⟨k + 1, by omega, by rw [hcn]; go_num, by rw [HB'.out.1], by go_num, HFN.out.later (below_dn (Below.refl _ _) _)⟩
          case measure => simp [intOf]; omega
    have hkl : k = L.length := by omega
    subst hkl
    clear hk hlt
    have hbb : (c = 7 ∧ blK S ts L L.length = true) ∨ (c = 0 ∧ blK S ts L L.length = false ∧ cnK S ts L c L.length = n) := by
      rcases HC.out with ⟨e, h⟩ | ⟨e, h, hn', _⟩
      · exact Or.inl ⟨e, blK_all.2 h⟩
      · exact Or.inr ⟨e, by rw [← Bool.not_eq_true, blK_all]; exact h, by unfold cnK; rw [if_pos e, List.take_length, hn']⟩
    obtain ⟨j0, j1, j2, j3, j4, j5, j6⟩ := HE.out.cells
    go_upto_region 21 with fail
    clear j0 j1 j2 j3 j4 j5 j6
    rcases hbb with ⟨e, hb⟩ | ⟨e, hb, hcn⟩
    focus
      rw [hb]
      subst e
      clear hb
      have f0 := field_sc0
      have f1 := field_sc1
      have f2 := field_is1
      have hS0 : EnvS w b0 b7 b10 S (.slice a0 S.nc c0) (.slice a1 S.nl c1) (.slice a2 S.nw c2) 7 n F (.slice g7 n p7) L (.slice ak L.length ck) wr.drew := HE.out.later (Below.drew (Below.refl _ _))
      refine wp_region_held_drew (S := EnvS w b0 b7 b10 S (.slice a0 S.nc c0) (.slice a1 S.nl c1) (.slice a2 S.nw c2) 7 n F (.slice g7 n p7) L (.slice ak L.length ck)) (by kernel_rfl) hS0 (fun hS => ?_)
      clear hS0 HE
      generalize wr.drew = z0 at hS ⊢
      refine tkH 0 ?_ hS (fun wx hx => ?_) ?_; rotate_left
      · obtain ⟨j0, j1, j2, j3, j4, j5, j6⟩ := hx.cells; go_simp; try with_reducible rfl
      refine tkH 1 ?_ hS (fun wx hx => ?_) ?_; rotate_left
      · obtain ⟨j0, j1, j2, j3, j4, j5, j6⟩ := hx.cells; go_simp; try with_reducible rfl
      try simp only [Act.put, List.getElem_toArray, List.getElem_cons_zero, List.getElem_cons_succ, List.setIfInBounds_toArray, List.set_cons_succ, List.set_cons_zero]
      refine tkH 2 ?_ hS (fun wx hx => ?_) ?_; rotate_left
      · obtain ⟨j0, j1, j2, j3, j4, j5, j6⟩ := hx.cells; go_simp; try with_reducible rfl
      refine tkH 3 ?_ hS (fun wx hx => ?_) ?_; rotate_left
      · obtain ⟨j0, j1, j2, j3, j4, j5, j6⟩ := hx.cells; go_simp; try with_reducible rfl
      refine tkH 4 ?_ hS (fun wx hx => ?_) ?_; rotate_left
      · obtain ⟨j0, j1, j2, j3, j4, j5, j6⟩ := hx.cells; go_simp; try with_reducible rfl
      try simp only [Act.put, List.getElem_toArray, List.getElem_cons_zero, List.getElem_cons_succ, List.setIfInBounds_toArray, List.set_cons_succ, List.set_cons_zero]
      refine tkH 5 ?_ hS (fun wx hx => ?_) ?_; rotate_left
      · obtain ⟨j0, j1, j2, j3, j4, j5, j6⟩ := hx.cells; go_simp; try with_reducible rfl
      refine tkH 6 ?_ hS (fun wx hx => ?_) ?_; rotate_left
      · obtain ⟨j0, j1, j2, j3, j4, j5, j6⟩ := hx.cells; go_simp; try with_reducible rfl
      refine tkH 7 ?_ hS (fun wx hx => ?_) ?_; rotate_left
      · obtain ⟨j0, j1, j2, j3, j4, j5, j6⟩ := hx.cells; go_simp; try with_reducible rfl
      try simp only [Act.put, List.getElem_toArray, List.getElem_cons_zero, List.getElem_cons_succ, List.setIfInBounds_toArray, List.set_cons_succ, List.set_cons_zero]
      refine tkH 8 ?_ hS (fun wx hx => ?_) ?_; rotate_left
      · obtain ⟨j0, j1, j2, j3, j4, j5, j6⟩ := hx.cells; go_simp; try with_reducible rfl
      refine tkH 9 ?_ hS (fun wx hx => ?_) ?_; rotate_left
      · obtain ⟨j0, j1, j2, j3, j4, j5, j6⟩ := hx.cells; go_simp; try with_reducible rfl
      refine noH 10 hS ?_
      try simp only [Act.put, List.getElem_toArray, List.getElem_cons_zero, List.getElem_cons_succ, List.setIfInBounds_toArray, List.set_cons_succ, List.set_cons_zero]
      refine noH 11 hS ?_
      refine noH 12 hS ?_
      refine noH 13 hS ?_
      try simp only [Act.put, List.getElem_toArray, List.getElem_cons_zero, List.getElem_cons_succ, List.setIfInBounds_toArray, List.set_cons_succ, List.set_cons_zero]
      refine noH 14 hS ?_
      refine tkH 15 ?_ hS (fun wx hx => ?_) ?_; rotate_left
      · obtain ⟨j0, j1, j2, j3, j4, j5, j6⟩ := hx.cells; go_simp; try with_reducible rfl
      refine tkH 16 ?_ hS (fun wx hx => ?_) ?_; rotate_left
      · obtain ⟨j0, j1, j2, j3, j4, j5, j6⟩ := hx.cells; go_simp; try with_reducible rfl
      try simp only [Act.put, List.getElem_toArray, List.getElem_cons_zero, List.getElem_cons_succ, List.setIfInBounds_toArray, List.set_cons_succ, List.set_cons_zero]
      refine tkH 17 ?_ hS (fun wx hx => ?_) ?_; rotate_left
      · obtain ⟨j0, j1, j2, j3, j4, j5, j6⟩ := hx.cells; go_simp; try with_reducible rfl
      refine tkH 18 ?_ hS (fun wx hx => ?_) ?_; rotate_left
      · obtain ⟨j0, j1, j2, j3, j4, j5, j6⟩ := hx.cells; go_simp; try with_reducible rfl
      refine tkH 19 ?_ hS (fun wx hx => ?_) ?_; rotate_left
      · obtain ⟨j0, j1, j2, j3, j4, j5, j6⟩ := hx.cells; go_simp; try with_reducible rfl
      try simp only [Act.put, List.getElem_toArray, List.getElem_cons_zero, List.getElem_cons_succ, List.setIfInBounds_toArray, List.set_cons_succ, List.set_cons_zero]
      refine tkH 20 ?_ hS (fun wx hx => ?_) ?_; rotate_left
      · obtain ⟨j0, j1, j2, j3, j4, j5, j6⟩ := hx.cells; go_simp; try with_reducible rfl
      refine tkH 21 ?_ hS (fun wx hx => ?_) ?_; rotate_left
      · obtain ⟨j0, j1, j2, j3, j4, j5, j6⟩ := hx.cells; go_simp; try with_reducible rfl
      refine tkH 22 ?_ hS (fun wx hx => ?_) ?_; rotate_left
      · obtain ⟨j0, j1, j2, j3, j4, j5, j6⟩ := hx.cells; go_simp; try with_reducible rfl
      try simp only [Act.put, List.getElem_toArray, List.getElem_cons_zero, List.getElem_cons_succ, List.setIfInBounds_toArray, List.set_cons_succ, List.set_cons_zero]
      refine tkH 23 ?_ hS (fun wx hx => ?_) ?_; rotate_left
      · obtain ⟨j0, j1, j2, j3, j4, j5, j6⟩ := hx.cells; go_simp; try with_reducible rfl
      refine tkH 24 ?_ hS (fun wx hx => ?_) ?_; rotate_left
      · obtain ⟨j0, j1, j2, j3, j4, j5, j6⟩ := hx.cells; go_simp; try with_reducible rfl
      refine tkH 25 ?_ hS (fun wx hx => ?_) ?_; rotate_left
      · obtain ⟨j0, j1, j2, j3, j4, j5, j6⟩ := hx.cells; go_simp; try with_reducible rfl
      try simp only [Act.put, List.getElem_toArray, List.getElem_cons_zero, List.getElem_cons_succ, List.setIfInBounds_toArray, List.set_cons_succ, List.set_cons_zero]
      refine tkH 26 ?_ hS (fun wx hx => ?_) ?_; rotate_left
      · obtain ⟨j0, j1, j2, j3, j4, j5, j6⟩ := hx.cells; go_simp; try with_reducible rfl
      refine tkH 27 ?_ hS (fun wx hx => ?_) ?_; rotate_left
      · obtain ⟨j0, j1, j2, j3, j4, j5, j6⟩ := hx.cells; go_simp; try with_reducible rfl
      refine tkH 28 ?_ hS (fun wx hx => ?_) ?_; rotate_left
      · obtain ⟨j0, j1, j2, j3, j4, j5, j6⟩ := hx.cells; go_simp; try with_reducible rfl
      try simp only [Act.put, List.getElem_toArray, List.getElem_cons_zero, List.getElem_cons_succ, List.setIfInBounds_toArray, List.set_cons_succ, List.set_cons_zero]
      refine tkH 29 ?_ hS (fun wx hx => ?_) ?_; rotate_left
      · obtain ⟨j0, j1, j2, j3, j4, j5, j6⟩ := hx.cells; go_simp; try with_reducible rfl
      refine rdH 30 (fun K hK => ?_)
      go_simp
      go_wp2_with fail
      refine (specScanAt_is S _ _ _ fr tu ts 7 n F 0 _ hS.1.st A.out).mono ?_
      rintro e z1 ⟨ga, pa, rfl, _, _, q⟩
      go_wp2_with fail
      refine hK.out _ _ (hS.later q) (fun hS => ?_)
      clear hK K q
      refine tkH 31 ?_ hS (fun wx hx => ?_) ?_; rotate_left
      · obtain ⟨j0, j1, j2, j3, j4, j5, j6⟩ := hx.cells; go_simp; try with_reducible rfl
      refine tkH 32 ?_ hS (fun wx hx => ?_) ?_; rotate_left
      · obtain ⟨j0, j1, j2, j3, j4, j5, j6⟩ := hx.cells; go_simp; try with_reducible rfl
      try simp only [Act.put, List.getElem_toArray, List.getElem_cons_zero, List.getElem_cons_succ, List.setIfInBounds_toArray, List.set_cons_succ, List.set_cons_zero]
      refine tkH 33 ?_ hS (fun wx hx => ?_) ?_; rotate_left
      · obtain ⟨j0, j1, j2, j3, j4, j5, j6⟩ := hx.cells; go_simp; try with_reducible rfl
      refine tkH 34 ?_ hS (fun wx hx => ?_) ?_; rotate_left
      · obtain ⟨j0, j1, j2, j3, j4, j5, j6⟩ := hx.cells; go_simp; try with_reducible rfl
      refine tkH 35 ?_ hS (fun wx hx => ?_) ?_; rotate_left
      · obtain ⟨j0, j1, j2, j3, j4, j5, j6⟩ := hx.cells; go_simp; try with_reducible rfl
      try simp only [Act.put, List.getElem_toArray, List.getElem_cons_zero, List.getElem_cons_succ, List.setIfInBounds_toArray, List.set_cons_succ, List.set_cons_zero]
      refine tkH 36 ?_ hS (fun wx hx => ?_) ?_; rotate_left
      · obtain ⟨j0, j1, j2, j3, j4, j5, j6⟩ := hx.cells; go_simp; try with_reducible rfl
      refine tkH 37 ?_ hS (fun wx hx => ?_) ?_; rotate_left
      · obtain ⟨j0, j1, j2, j3, j4, j5, j6⟩ := hx.cells; go_simp; try with_reducible rfl
      refine tkH 38 ?_ hS (fun wx hx => ?_) ?_; rotate_left
      · obtain ⟨j0, j1, j2, j3, j4, j5, j6⟩ := hx.cells; go_simp; try with_reducible rfl
      try simp only [Act.put, List.getElem_toArray, List.getElem_cons_zero, List.getElem_cons_succ, List.setIfInBounds_toArray, List.set_cons_succ, List.set_cons_zero]
      refine tkH 39 ?_ hS (fun wx hx => ?_) ?_; rotate_left
      · obtain ⟨j0, j1, j2, j3, j4, j5, j6⟩ := hx.cells; go_simp; try with_reducible rfl
      refine tkH 40 ?_ hS (fun wx hx => ?_) ?_; rotate_left
      · obtain ⟨j0, j1, j2, j3, j4, j5, j6⟩ := hx.cells; go_simp; try with_reducible rfl
      refine tkH 41 ?_ hS (fun wx hx => ?_) ?_; rotate_left
      · obtain ⟨j0, j1, j2, j3, j4, j5, j6⟩ := hx.cells; go_simp; try with_reducible rfl
      refine rdH 42 (fun K hK => ?_)
      go_simp
      go_wp2_with fail
      refine (specScanAt_is S _ _ _ fr tu ts 7 n F 0 _ hS.1.st A.out).mono ?_
    rotate_left
    focus
      rw [hb]
      rw [hcn]
      subst e
      clear hb hcn
      have f0 := field_sc0
      have f1 := field_sc1
      have f2 := field_is1
      have hS0 : EnvS w b0 b7 b10 S (.slice a0 S.nc c0) (.slice a1 S.nl c1) (.slice a2 S.nw c2) 0 n F (.slice g7 n p7) L (.slice ak L.length ck) wr.drew := HE.out.later (Below.drew (Below.refl _ _))
      refine wp_region_held_drew (S := EnvS w b0 b7 b10 S (.slice a0 S.nc c0) (.slice a1 S.nl c1) (.slice a2 S.nw c2) 0 n F (.slice g7 n p7) L (.slice ak L.length ck)) (by kernel_rfl) hS0 (fun hS => ?_)
      clear hS0 HE
      generalize wr.drew = z0 at hS ⊢
      refine tkH 0 ?_ hS (fun wx hx => ?_) ?_; rotate_left
      · obtain ⟨j0, j1, j2, j3, j4, j5, j6⟩ := hx.cells; go_simp; try with_reducible rfl
      refine tkH 1 ?_ hS (fun wx hx => ?_) ?_; rotate_left
      · obtain ⟨j0, j1, j2, j3, j4, j5, j6⟩ := hx.cells; go_simp; try with_reducible rfl
      try simp only [Act.put, List.getElem_toArray, List.getElem_cons_zero, List.getElem_cons_succ, List.setIfInBounds_toArray, List.set_cons_succ, List.set_cons_zero]
      refine tkH 2 ?_ hS (fun wx hx => ?_) ?_; rotate_left
      · obtain ⟨j0, j1, j2, j3, j4, j5, j6⟩ := hx.cells; go_simp; try with_reducible rfl
      refine tkH 3 ?_ hS (fun wx hx => ?_) ?_; rotate_left
      · obtain ⟨j0, j1, j2, j3, j4, j5, j6⟩ := hx.cells; go_simp; try with_reducible rfl
      refine tkH 4 ?_ hS (fun wx hx => ?_) ?_; rotate_left
      · obtain ⟨j0, j1, j2, j3, j4, j5, j6⟩ := hx.cells; go_simp; try with_reducible rfl
      try simp only [Act.put, List.getElem_toArray, List.getElem_cons_zero, List.getElem_cons_succ, List.setIfInBounds_toArray, List.set_cons_succ, List.set_cons_zero]
      refine tkH 5 ?_ hS (fun wx hx => ?_) ?_; rotate_left
      · obtain ⟨j0, j1, j2, j3, j4, j5, j6⟩ := hx.cells; go_simp; try with_reducible rfl
      refine tkH 6 ?_ hS (fun wx hx => ?_) ?_; rotate_left
      · obtain ⟨j0, j1, j2, j3, j4, j5, j6⟩ := hx.cells; go_simp; try with_reducible rfl
      refine tkH 7 ?_ hS (fun wx hx => ?_) ?_; rotate_left
      · obtain ⟨j0, j1, j2, j3, j4, j5, j6⟩ := hx.cells; go_simp; try with_reducible rfl
      try simp only [Act.put, List.getElem_toArray, List.getElem_cons_zero, List.getElem_cons_succ, List.setIfInBounds_toArray, List.set_cons_succ, List.set_cons_zero]
      refine tkH 8 ?_ hS (fun wx hx => ?_) ?_; rotate_left
      · obtain ⟨j0, j1, j2, j3, j4, j5, j6⟩ := hx.cells; go_simp; try with_reducible rfl
      refine tkH 9 ?_ hS (fun wx hx => ?_) ?_; rotate_left
      · obtain ⟨j0, j1, j2, j3, j4, j5, j6⟩ := hx.cells; go_simp; try with_reducible rfl
      refine tkH 10 ?_ hS (fun wx hx => ?_) ?_; rotate_left
      · obtain ⟨j0, j1, j2, j3, j4, j5, j6⟩ := hx.cells; go_simp; try with_reducible rfl
      try simp only [Act.put, List.getElem_toArray, List.getElem_cons_zero, List.getElem_cons_succ, List.setIfInBounds_toArray, List.set_cons_succ, List.set_cons_zero]
      refine tkH 11 ?_ hS (fun wx hx => ?_) ?_; rotate_left
      · obtain ⟨j0, j1, j2, j3, j4, j5, j6⟩ := hx.cells; go_simp; try with_reducible rfl
      refine tkH 12 ?_ hS (fun wx hx => ?_) ?_; rotate_left
      · obtain ⟨j0, j1, j2, j3, j4, j5, j6⟩ := hx.cells; go_simp; try with_reducible rfl
      refine tkH 13 ?_ hS (fun wx hx => ?_) ?_; rotate_left
      · obtain ⟨j0, j1, j2, j3, j4, j5, j6⟩ := hx.cells; go_simp; try with_reducible rfl
      try simp only [Act.put, List.getElem_toArray, List.getElem_cons_zero, List.getElem_cons_succ, List.setIfInBounds_toArray, List.set_cons_succ, List.set_cons_zero]
      refine tkH 14 ?_ hS (fun wx hx => ?_) ?_; rotate_left
      · obtain ⟨j0, j1, j2, j3, j4, j5, j6⟩ := hx.cells; go_simp; try with_reducible rfl
      refine tkH 15 ?_ hS (fun wx hx => ?_) ?_; rotate_left
      · obtain ⟨j0, j1, j2, j3, j4, j5, j6⟩ := hx.cells; go_simp; try with_reducible rfl
      refine tkH 16 ?_ hS (fun wx hx => ?_) ?_; rotate_left
      · obtain ⟨j0, j1, j2, j3, j4, j5, j6⟩ := hx.cells; go_simp; try with_reducible rfl
      try simp only [Act.put, List.getElem_toArray, List.getElem_cons_zero, List.getElem_cons_succ, List.setIfInBounds_toArray, List.set_cons_succ, List.set_cons_zero]
      refine tkH 17 ?_ hS (fun wx hx => ?_) ?_; rotate_left
      · obtain ⟨j0, j1, j2, j3, j4, j5, j6⟩ := hx.cells; go_simp; try with_reducible rfl
      refine tkH 18 ?_ hS (fun wx hx => ?_) ?_; rotate_left
      · obtain ⟨j0, j1, j2, j3, j4, j5, j6⟩ := hx.cells; go_simp; try with_reducible rfl
      refine tkH 19 ?_ hS (fun wx hx => ?_) ?_; rotate_left
      · obtain ⟨j0, j1, j2, j3, j4, j5, j6⟩ := hx.cells; go_simp; try with_reducible rfl
      try simp only [Act.put, List.getElem_toArray, List.getElem_cons_zero, List.getElem_cons_succ, List.setIfInBounds_toArray, List.set_cons_succ, List.set_cons_zero]
      refine tkH 20 ?_ hS (fun wx hx => ?_) ?_; rotate_left
      · obtain ⟨j0, j1, j2, j3, j4, j5, j6⟩ := hx.cells; go_simp; try with_reducible rfl
      refine tkH 21 ?_ hS (fun wx hx => ?_) ?_; rotate_left
      · obtain ⟨j0, j1, j2, j3, j4, j5, j6⟩ := hx.cells; go_simp; try with_reducible rfl
      refine tkH 22 ?_ hS (fun wx hx => ?_) ?_; rotate_left
      · obtain ⟨j0, j1, j2, j3, j4, j5, j6⟩ := hx.cells; go_simp; try with_reducible rfl
      try simp only [Act.put, List.getElem_toArray, List.getElem_cons_zero, List.getElem_cons_succ, List.setIfInBounds_toArray, List.set_cons_succ, List.set_cons_zero]
      refine tkH 23 ?_ hS (fun wx hx => ?_) ?_; rotate_left
      · obtain ⟨j0, j1, j2, j3, j4, j5, j6⟩ := hx.cells; go_simp; try with_reducible rfl
      refine tkH 24 ?_ hS (fun wx hx => ?_) ?_; rotate_left
      · obtain ⟨j0, j1, j2, j3, j4, j5, j6⟩ := hx.cells; go_simp; try with_reducible rfl
      refine tkH 25 ?_ hS (fun wx hx => ?_) ?_; rotate_left
      · obtain ⟨j0, j1, j2, j3, j4, j5, j6⟩ := hx.cells; go_simp; try with_reducible rfl
      try simp only [Act.put, List.getElem_toArray, List.getElem_cons_zero, List.getElem_cons_succ, List.setIfInBounds_toArray, List.set_cons_succ, List.set_cons_zero]
      refine tkH 26 ?_ hS (fun wx hx => ?_) ?_; rotate_left
      · obtain ⟨j0, j1, j2, j3, j4, j5, j6⟩ := hx.cells; go_simp; try with_reducible rfl
      refine tkH 27 ?_ hS (fun wx hx => ?_) ?_; rotate_left
      · obtain ⟨j0, j1, j2, j3, j4, j5, j6⟩ := hx.cells; go_simp; try with_reducible rfl
      refine tkH 28 ?_ hS (fun wx hx => ?_) ?_; rotate_left
      · obtain ⟨j0, j1, j2, j3, j4, j5, j6⟩ := hx.cells; go_simp; try with_reducible rfl
      try simp only [Act.put, List.getElem_toArray, List.getElem_cons_zero, List.getElem_cons_succ, List.setIfInBounds_toArray, List.set_cons_succ, List.set_cons_zero]
      refine tkH 29 ?_ hS (fun wx hx => ?_) ?_; rotate_left
      · obtain ⟨j0, j1, j2, j3, j4, j5, j6⟩ := hx.cells; go_simp; try with_reducible rfl
      refine rdH 30 (fun K hK => ?_)
      go_simp
      go_wp2_with fail
      refine (specScanAt_is S _ _ _ fr tu ts 0 n F 0 _ hS.1.st A.out).mono ?_
      rintro e z1 ⟨ga, pa, rfl, _, _, q⟩
      go_wp2_with fail
      refine hK.out _ _ (hS.later q) (fun hS => ?_)
      clear hK K q
      refine tkH 31 ?_ hS (fun wx hx => ?_) ?_; rotate_left
      · obtain ⟨j0, j1, j2, j3, j4, j5, j6⟩ := hx.cells; go_simp; try with_reducible rfl
      refine tkH 32 ?_ hS (fun wx hx => ?_) ?_; rotate_left
      · obtain ⟨j0, j1, j2, j3, j4, j5, j6⟩ := hx.cells; go_simp; try with_reducible rfl
      try simp only [Act.put, List.getElem_toArray, List.getElem_cons_zero, List.getElem_cons_succ, List.setIfInBounds_toArray, List.set_cons_succ, List.set_cons_zero]
      refine tkH 33 ?_ hS (fun wx hx => ?_) ?_; rotate_left
      · obtain ⟨j0, j1, j2, j3, j4, j5, j6⟩ := hx.cells; go_simp; try with_reducible rfl
      refine tkH 34 ?_ hS (fun wx hx => ?_) ?_; rotate_left
      · obtain ⟨j0, j1, j2, j3, j4, j5, j6⟩ := hx.cells; go_simp; try with_reducible rfl
      refine tkH 35 ?_ hS (fun wx hx => ?_) ?_; rotate_left
      · obtain ⟨j0, j1, j2, j3, j4, j5, j6⟩ := hx.cells; go_simp; try with_reducible rfl
      try simp only [Act.put, List.getElem_toArray, List.getElem_cons_zero, List.getElem_cons_succ, List.setIfInBounds_toArray, List.set_cons_succ, List.set_cons_zero]
      refine tkH 36 ?_ hS (fun wx hx => ?_) ?_; rotate_left
      · obtain ⟨j0, j1, j2, j3, j4, j5, j6⟩ := hx.cells; go_simp; try with_reducible rfl
      refine tkH 37 ?_ hS (fun wx hx => ?_) ?_; rotate_left
      · obtain ⟨j0, j1, j2, j3, j4, j5, j6⟩ := hx.cells; go_simp; try with_reducible rfl
      refine tkH 38 ?_ hS (fun wx hx => ?_) ?_; rotate_left
      · obtain ⟨j0, j1, j2, j3, j4, j5, j6⟩ := hx.cells; go_simp; try with_reducible rfl
      try simp only [Act.put, List.getElem_toArray, List.getElem_cons_zero, List.getElem_cons_succ, List.setIfInBounds_toArray, List.set_cons_succ, List.set_cons_zero]
      refine tkH 39 ?_ hS (fun wx hx => ?_) ?_; rotate_left
      · obtain ⟨j0, j1, j2, j3, j4, j5, j6⟩ := hx.cells; go_simp; try with_reducible rfl
      refine tkH 40 ?_ hS (fun wx hx => ?_) ?_; rotate_left
      · obtain ⟨j0, j1, j2, j3, j4, j5, j6⟩ := hx.cells; go_simp; try with_reducible rfl
      refine tkH 41 ?_ hS (fun wx hx => ?_) ?_; rotate_left
      · obtain ⟨j0, j1, j2, j3, j4, j5, j6⟩ := hx.cells; go_simp; try with_reducible rfl
      refine rdH 42 (fun K hK => ?_)
      go_simp
      go_wp2_with fail
      refine (specScanAt_is S _ _ _ fr tu ts 0 n F 0 _ hS.1.st A.out).mono ?_
    rotate_left
    all_goals
      rintro e z2 ⟨ga, pa, rfl, _, _, q⟩
      go_wp2_with fail
      refine hK.out _ _ (hS.later q) (fun hS => ?_)
      clear hK K q
      refine tkH 43 ?_ hS (fun wx hx => ?_) ?_; rotate_left
      · obtain ⟨j0, j1, j2, j3, j4, j5, j6⟩ := hx.cells; go_simp; try with_reducible rfl
      refine tkH 44 ?_ hS (fun wx hx => ?_) ?_; rotate_left
      · obtain ⟨j0, j1, j2, j3, j4, j5, j6⟩ := hx.cells; go_simp; try with_reducible rfl
      try simp only [Act.put, List.getElem_toArray, List.getElem_cons_zero, List.getElem_cons_succ, List.setIfInBounds_toArray, List.set_cons_succ, List.set_cons_zero]
      refine tkH 45 ?_ hS (fun wx hx => ?_) ?_; rotate_left
      · obtain ⟨j0, j1, j2, j3, j4, j5, j6⟩ := hx.cells; go_simp; try with_reducible rfl
      refine tkH 46 ?_ hS (fun wx hx => ?_) ?_; rotate_left
      · obtain ⟨j0, j1, j2, j3, j4, j5, j6⟩ := hx.cells; go_simp; try with_reducible rfl
      refine tkH 47 ?_ hS (fun wx hx => ?_) ?_; rotate_left
      · obtain ⟨j0, j1, j2, j3, j4, j5, j6⟩ := hx.cells; go_simp; try with_reducible rfl
      try simp only [Act.put, List.getElem_toArray, List.getElem_cons_zero, List.getElem_cons_succ, List.setIfInBounds_toArray, List.set_cons_succ, List.set_cons_zero]
      refine tkH 48 ?_ hS (fun wx hx => ?_) ?_; rotate_left
      · obtain ⟨j0, j1, j2, j3, j4, j5, j6⟩ := hx.cells; go_simp; try with_reducible rfl
      refine tkH 49 ?_ hS (fun wx hx => ?_) ?_; rotate_left
      · obtain ⟨j0, j1, j2, j3, j4, j5, j6⟩ := hx.cells; go_simp; try with_reducible rfl
      refine tkH 50 ?_ hS (fun wx hx => ?_) ?_; rotate_left
      · obtain ⟨j0, j1, j2, j3, j4, j5, j6⟩ := hx.cells; go_simp; try with_reducible rfl
      try simp only [Act.put, List.getElem_toArray, List.getElem_cons_zero, List.getElem_cons_succ, List.setIfInBounds_toArray, List.set_cons_succ, List.set_cons_zero]
      refine tkH 51 ?_ hS (fun wx hx => ?_) ?_; rotate_left
      · obtain ⟨j0, j1, j2, j3, j4, j5, j6⟩ := hx.cells; go_simp; try with_reducible rfl
      refine rdH 52 (fun K hK => ?_)
      go_simp
      go_wp2_with fail
      refine (KS.out _).mono ?_
      rintro e z3 ⟨vk, rfl, ik, q⟩
      obtain ⟨al, cl, rfl⟩ := ik.form
      go_wp2_with fail
      refine hK.out _ _ (hS.later q) (fun hS => ?_)
      clear hK K q ik
      refine tkH 53 ?_ hS (fun wx hx => ?_) ?_; rotate_left
      · obtain ⟨j0, j1, j2, j3, j4, j5, j6⟩ := hx.cells; go_simp; try with_reducible rfl
      refine tkH 54 ?_ hS (fun wx hx => ?_) ?_; rotate_left
      · obtain ⟨j0, j1, j2, j3, j4, j5, j6⟩ := hx.cells; go_simp; try with_reducible rfl
      try simp only [Act.put, List.getElem_toArray, List.getElem_cons_zero, List.getElem_cons_succ, List.setIfInBounds_toArray, List.set_cons_succ, List.set_cons_zero]
      refine tkH 55 ?_ hS (fun wx hx => ?_) ?_; rotate_left
      · obtain ⟨j0, j1, j2, j3, j4, j5, j6⟩ := hx.cells; go_simp; try with_reducible rfl
      refine tkH 56 ?_ hS (fun wx hx => ?_) ?_; rotate_left
      · obtain ⟨j0, j1, j2, j3, j4, j5, j6⟩ := hx.cells; go_simp; try with_reducible rfl
      refine tkH 57 ?_ hS (fun wx hx => ?_) ?_; rotate_left
      · obtain ⟨j0, j1, j2, j3, j4, j5, j6⟩ := hx.cells; go_simp; try with_reducible rfl
      refine wpAnyH_done (by kernel_rfl) ?_ _
      have HB : Hid (Below w.heap.size w z3) := hS.1.below
      clear hS f0 f1 f2
      go_simp
      go_wp2
      go_ret
      exact ⟨rfl, HB.out⟩
end Go.Proofs.YtiikncbohnhcaaaGreatDoor

namespace Go.Proofs.YtiikncbohnhcaaaGreatDoor
open Go.RowKit

theorem fnScans_walk (o : Option Addr) (len cap : Nat) (w : World) (hL : Laid w) (h : Code w o len) (hl0 : len ≤ maxLen) :
    Calls Tryz.prog 6 #[.slice o len cap] w fun e w' => e = .returned (.bool true) ∧ Below w.heap.size w w' :=
  fnScans_over o len cap w hL hl0 (fun hl => (drawScanAt_any w o len cap h hl).mono (fun _ _ q => q))
end Go.Proofs.YtiikncbohnhcaaaGreatDoor

