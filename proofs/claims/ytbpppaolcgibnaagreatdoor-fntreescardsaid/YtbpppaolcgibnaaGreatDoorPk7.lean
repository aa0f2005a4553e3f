/-
  Own text, merged of FtrD.
-/
import Derived.Test.YtbpppaolcgibnaaGreatDoorPk6
namespace Go.Proofs.YtbpppaolcgibnaaGreatDoor
open Go.RowKit

theorem hidT {p : Prop} (h : p) : Hid p := h
theorem neqNode (a b c d : Int) (w : World) : (binOp .neq 40 (.agg #[.int .i64 a, .int .i64 b, .int .i64 c, .int .i64 d]) (.agg #[.int .i64 a, .int .i64 b, .int .i64 c, .int .i64 d])).run Tryz.prog w = .ok (.bool false) w := by
  have hS : Tryz.prog.underlying 40 = some (.struct (Tryz.prog.fieldsOf 40)) := by kernel_rfl
  have hp : Tryz.prog.stoodInHeld 40 = false := by kernel_rfl
  have u2 := Tryz.underlying2
  have a2 := Tryz.isAgg2
  have z2 := Tryz.sizeOf2
  rw [run_neq_struct, show (10000 : Nat) = 9999 + 1 from rfl, run_equalIn_agg w 9999 _ _ _ hS hp]
  simp only [Program.fieldsOf, Tryz.underlying40]
  go_simp
theorem field_tree0 (c : Int) (ao : Option Addr) (n cp : Nat) (w : World) : (Instr.field 28 (.agg #[.int .i64 c, .slice ao n cp]) 0).run Tryz.prog w = .ok (.int .i64 c) w := by kernel_rfl
theorem field_tree1 (c : Int) (ao : Option Addr) (n cp : Nat) (w : World) : (Instr.field 28 (.agg #[.int .i64 c, .slice ao n cp]) 1).run Tryz.prog w = .ok (.slice ao n cp) w := by kernel_rfl
theorem field_text1 (c : Int) (s : ByteArray) (w : World) : (Instr.field 42 (.agg #[.int .i64 c, .string s]) 1).run Tryz.prog w = .ok (.string s) w := by kernel_rfl
theorem field_kind (key : Int) (w : World) : (Instr.field 32 (partsVal key) 1).run Tryz.prog w = .ok (.int .i64 (partK key)) w := by kernel_rfl
/-- What the law stands on: the view, the tree that the program told, the table. -/
structure EnvT (w : World) (b4 : Nat) (c : Int) (m : Nat) (V : Nat → Int) (view : Value) (N : Nat) (l : List Int) (vn : Value) (x : World) : Prop where
  below : Below w.heap.size w x
  view : Row x 0 2 m V view
  box : Blk2 x b4 (.int .i64 c) vn
  nodes : Row x 0 4 N (fun p => l.getD p 0) vn
  pow : Pow10 x
theorem EnvT.later {w : World} {b4 : Nat} {c : Int} {m : Nat} {V : Nat → Int} {view : Value} {N : Nat} {l : List Int} {vn : Value} {x x' : World} (h : EnvT w b4 c m V view N l vn x) (hb : Below x.heap.size x x') : EnvT w b4 c m V view N l vn x' :=
  ⟨h.below.trans (hb.mono h.below.size), h.view.later hb, h.box.later hb, h.nodes.later hb, h.pow.later hb⟩
theorem TreAns.getT (m : Nat) (V : Nat → Int) : ∃ c N l, TreAns m V c N l := by
  by_cases h : fsF m V = 0
  · obtain ⟨N, hN⟩ := below_four (listOf V m) 10 0 1
    exact ⟨0, N, _, Or.inr ⟨h, rfl, hN, rfl⟩⟩
  · exact ⟨_, 0, [], Or.inl ⟨h, rfl, rfl, rfl⟩⟩
set_option maxRecDepth 100000 in
set_option maxHeartbeats 16000000 in
theorem fnTrees_walk (o : Option Addr) (len cap : Nat) (w : World) (hc : Code w o len) (hl0 : len ≤ maxLen) (hT : Pow10 w) :
    Calls Tryz.prog 3 #[.slice o len cap] w fun e w' => e = .returned (.bool true) ∧ Below w.heap.size w w' := by
  have hml : maxLen = 9223372036854775807 := rfl
  by_cases hbig : (1048576 : Int) < len
  · have d : decide ((1048576 : Int) < (len : Int)) = true := decide_eq_true hbig
    go_enter Tryz.func3, Tryz.ntmps3
    go_wp2_with fail
    refine (lwBigP_is _ _ _ _ _ d).mono ?_
    rintro e w9 ⟨rfl, hw9⟩
    obtain rfl := hw9.symm
    go_wp2
    go_ret
    exact ⟨rfl, Below.refl _ _⟩
  have dz : decide ((1048576 : Int) < (len : Int)) = false := decide_eq_false hbig
  have HT := hidT hT
  have HD := drawTree_any w o len cap hc (by omega)
  clear hc hbig hml hl0 hT
  go_enter Tryz.func3, Tryz.ntmps3
  go_wp2_with fail
  refine (lwBigP_is _ _ _ _ _ dz).mono ?_
  rintro e w9 ⟨rfl, hw9⟩
  obtain rfl := hw9.symm
  go_wp2_with fail
  refine HD.mono ?_
  clear HD
  rintro e w1 ⟨m, V, ao, cp, rfl, hm, hV, q1⟩
  have HX := hidT (And.intro (hV.mono (Nat.zero_le _)) q1)
  clear hV q1 dz
  obtain ⟨c, N, l, hans⟩ := TreAns.getT m V
  have HA := hidT hans
  clear hans
  go_wp2_with fail
  refine (implTree_is _ 0 m V c N l _ HX.out.1 (by omega) HA.out).mono ?_
  rintro e w3 ⟨vn, rfl, hO, q3⟩
  have hrow := hO.rowL.1
  obtain ⟨na, nc, rfl⟩ := hrow.form
  have E3 := hidT (EnvT.mk (w := w) (b4 := w3.heap.size) (c := c) (m := m) (V := V) (view := .slice ao m cp) (N := N) (l := l) (vn := .slice na N nc) (x := w3.alloc (.cells #[.int .i64 c, .slice na N nc] 28)) ((HX.out.2.trans (q3.mono HX.out.2.size)).alloc (Nat.le_trans HX.out.2.size q3.size) _) ((HX.out.1.later q3).alloc _) (Blk2.new w3 _ _ _) ((hrow.mono (Nat.zero_le _)).alloc _) (HT.out.later ((HX.out.2.trans (q3.mono HX.out.2.size)).alloc (Nat.le_trans HX.out.2.size q3.size) _)))
  clear hO hrow q3 HX HT
  obtain ⟨⟨p0, p1⟩, _⟩ := E3.out.box
  by_cases hc0 : c = 0
  case neg =>
    have dc : (c != 0) = true := bne_iff_ne.2 hc0
    have hcf : fsF m V = c := by
      rcases HA.out with ⟨_, q, _⟩ | ⟨_, q, _⟩
      · exact q.symm
      · exact absurd q hc0
    have HC := hidT hcf
    have ff := field_tree0
    clear hc0 hcf
    go_wp2_with fail
    refine wp_region_held_drew (S := fun Z : World => Blk2 Z w3.heap.size (.int .i64 c) (.slice na N nc)) (by kernel_rfl) (E3.out.box.later (Below.refl _ _).drew) (fun hS => ?_)
    have H4 := hidT (E3.out.later (Below.refl _ _).drew)
    clear E3 p0 p1
    generalize (w3.alloc (.cells #[.int .i64 c, .slice na N nc] 28)).drew = z0 at hS H4 ⊢
    refine tkH 0 ?_ hS (fun wx hx => ?_) ?_; rotate_left
    · obtain ⟨⟨hx0, hx1⟩, _⟩ := hx; go_simp; try with_reducible rfl
    refine tkH 3 ?_ hS (fun wx hx => ?_) ?_; rotate_left
    · obtain ⟨⟨hx0, hx1⟩, _⟩ := hx; go_simp; try with_reducible rfl
    refine tkH 4 ?_ hS (fun wx hx => ?_) ?_; rotate_left
    · obtain ⟨⟨hx0, hx1⟩, _⟩ := hx; go_simp; try with_reducible rfl
    refine rdH 1 (fun K hK => ?_)
    go_simp
    go_wp2_with fail
    refine (specTree_is _ 0 m V c N l _ H4.out.view (by omega) HA.out).mono ?_
    rintro e z1 ⟨v1, rfl, hO1, q⟩
    obtain ⟨sa, sc, rfl⟩ := hO1.rowL.1.form
    have hS1 := hS.later q
    have H5 := hidT (H4.out.later q)
    clear q hS H4 hO1
    go_wp2_with fail
    refine hK.out _ _ hS1 (fun hS => ?_)
    clear hK K
    clear hS1
    refine tkH 2 ?_ hS (fun wx hx => ?_) ?_; rotate_left
    · obtain ⟨⟨hx0, hx1⟩, _⟩ := hx; go_simp; try with_reducible rfl
    refine tkH 5 ?_ hS (fun wx hx => ?_) ?_; rotate_left
    · obtain ⟨⟨hx0, hx1⟩, _⟩ := hx; go_simp; try with_reducible rfl
    refine tkH 6 ?_ hS (fun wx hx => ?_) ?_; rotate_left
    · obtain ⟨⟨hx0, hx1⟩, _⟩ := hx; go_simp; try with_reducible rfl
    refine tkH 7 ?_ hS (fun wx hx => ?_) ?_; rotate_left
    · obtain ⟨⟨hx0, hx1⟩, _⟩ := hx; go_simp; try with_reducible rfl
    refine tkH 9 ?_ hS (fun wx hx => ?_) ?_; rotate_left
    · obtain ⟨⟨hx0, hx1⟩, _⟩ := hx; go_simp; try with_reducible rfl
    refine tkH 10 ?_ hS (fun wx hx => ?_) ?_; rotate_left
    · obtain ⟨⟨hx0, hx1⟩, _⟩ := hx; go_simp; try with_reducible rfl
    refine rdH 8 (fun K hK => ?_)
    go_simp
    go_wp2_with fail
    refine (implFs_is _ 0 m V _ H5.out.view (by omega)).mono ?_
    rintro e z2 ⟨rfl, q⟩
    rw [HC.out]
    have hS1 := hS.later q
    have BB := hidT (H5.out.below.trans (q.mono H5.out.below.size))
    clear q hS H5
    go_wp2_with fail
    refine hK.out _ _ hS1 (fun hS => ?_)
    clear hK K
    clear hS1
    refine tkH 11 ?_ hS (fun wx hx => ?_) ?_; rotate_left
    · obtain ⟨⟨hx0, hx1⟩, _⟩ := hx; go_simp; try with_reducible rfl
    refine tkH 12 ?_ hS (fun wx hx => ?_) ?_; rotate_left
    · obtain ⟨⟨hx0, hx1⟩, _⟩ := hx; go_simp; try with_reducible rfl
    refine tkH 13 ?_ hS (fun wx hx => ?_) ?_; rotate_left
    · obtain ⟨⟨hx0, hx1⟩, _⟩ := hx; go_simp; try with_reducible rfl
    clear hS
    refine wpAnyH_done (by kernel_rfl) ?_ _
    go_simp
    go_wp2
    go_ret
    exact ⟨by simp, BB.out⟩
  subst hc0
  obtain ⟨hfs, hlen, hl⟩ : fsF m V = 0 ∧ l.length = N * 4 ∧ l = belowF (listOf V m) 10 0 1 := by
    rcases HA.out with ⟨q, q', _⟩ | ⟨q1, _, q2, q3⟩
    · exact absurd q'.symm q
    · exact ⟨q1, q2, q3⟩
  have htold := tree_told (good_of_pairs (fsF_zero hfs).1) (fsF_zero hfs).2 (N := N) (by rw [← hl]; exact hlen)
  rw [← hl] at htold
  obtain ⟨ht1, ht2, ht3, ht4⟩ := htold
  have HF := hidT (And.intro hfs (fsF_zero hfs).1)
  have HN : Hid (cntE V m m = N ∧ lnkS (listOf V m) 10 = N) := ⟨by rw [cntE_all, ← ht1], by rw [lnkS_ten, ht2]⟩
  have HK := hidT ht4
  have hN60 : N ≤ 60 := ht3
  clear hfs hlen hl ht1 ht2 ht3 ht4
  have fk := field_kind
  have fi1 := field_int1
  go_wp2_with fail
  clear p0 p1
  generalize w3.alloc (.cells #[.int .i64 0, .slice na N nc] 28) = X0 at E3 ⊢
  go_loopw [5, 6] (fun nv i wr => ∃ k : Nat, k ≤ m ∧ i = .int .i64 k ∧ nv = .int .i64 (cntE V m k) ∧ Hid (Below X0.heap.size X0 wr)) (fun _ i _ => m - (intOf i).toNat)
  case atStart => exact ⟨0, Nat.zero_le _, rfl, rfl, Below.refl _ _⟩
  case round =>
    obtain ⟨k, hk, rfl, rfl, HB⟩ := hrel
    by_cases hlt : k < m
    case pos =>
      obtain ⟨g, oo, rfl, _, _, z0, z1⟩ := (E3.out.view.later HB.out).at2 hlt
      have hcs := cntE_succ (V := V) hlt
      have hcl := cntE_le V m k hk
      obtain ⟨n0, hn0⟩ : ∃ x, V (k * 2) = x := ⟨_, rfl⟩
      rw [hn0] at z0 hcs
      go_wp2_with fail
      refine (implPartsOf_any n0 _).mono ?_
      rintro e w5 ⟨rfl, hw5⟩
      have HB5 : Hid (Below X0.heap.size X0 w5) := by
        unfold Hid
        rw [hw5]
        exact HB.out.alloc HB.out.size _
      clear hw5 HB z0 z1
      by_cases hpk : partK n0 = 2
      · have dp : (partK n0 == 2) = true := beq_iff_eq.2 hpk
        rw [if_pos hpk] at hcs
        have hw : IntKind.i64.wrap ((cntE V m k : Nat) + 1 : Int) = ((cntE V m (k + 1) : Nat) : Int) := by rw [hcs]; simp [IntKind.wrap, IntKind.bits, IntKind.signed]; omega
        clear hpk hcs
        go_wp2
        go_roundw
        case rel => exact ⟨k + 1, by omega, by go_num, rfl, HB5⟩
        case measure => simp [intOf]; omega
      · have dp : (partK n0 == 2) = false := beq_eq_false_iff_ne.2 hpk
        rw [if_neg hpk, Nat.add_zero] at hcs
        have HCS := hidT hcs
        clear hpk hcs
        go_wp2
        go_roundw
        case rel => exact ⟨k + 1, by omega, by go_num, by rw [HCS.out]; rfl, HB5⟩
        case measure => simp [intOf]; omega
    case neg =>
      obtain rfl : m = k := by omega
      have HN1 := hidT HN.out.1
      rw [HN.out.1]
      have E4 := hidT (E3.out.later HB.out)
      clear E3 HB
      obtain ⟨wa, rfl⟩ : ∃ x, x = wr := ⟨_, rfl⟩
      go_wp2_with fail
      go_loopw [7, 8] (fun lv i wr => ∃ k : Nat, k ≤ 10 ∧ i = .int .i64 k ∧ lv = .int .i64 (lnkS (listOf V m) k) ∧ Hid (Below wa.heap.size wa wr)) (fun _ i _ => 10 - (intOf i).toNat)
      case atStart => exact ⟨0, Nat.zero_le _, rfl, rfl, Below.refl _ _⟩
      case round =>
        obtain ⟨k, hk, rfl, rfl, HB⟩ := hrel
        by_cases hlt : k < 10
        case pos =>
          have HL : Hid (LnkAns m V (k : Nat) 0 ((linkN (listOf V m) (k : Nat) : Nat) : Int)) := Or.inr (Or.inr ⟨HF.out.2, ⟨by omega, by omega⟩, rfl, rfl⟩)
          have h1 := lnkS_le (listOf V m) k
          have h2 := linkN_le (listOf V m) k
          rw [listOf_length] at h1 h2
          have h3 : k * m ≤ 10 * 401 := Nat.mul_le_mul hk hm
          have hs : lnkS (listOf V m) (k + 1) = lnkS (listOf V m) k + linkN (listOf V m) k := rfl
          obtain ⟨A, hA⟩ : ∃ x, lnkS (listOf V m) k = x := ⟨_, rfl⟩
          obtain ⟨C, hC⟩ : ∃ x, linkN (listOf V m) (k : Nat) = x := ⟨_, rfl⟩
          rw [hA] at h1 hs ⊢
          rw [hC] at h2 hs HL
          have HS := hidT hs
          have hw : IntKind.i64.wrap ((A : Int) + (C : Int)) = ((A + C : Nat) : Int) := by simp [IntKind.wrap, IntKind.bits, IntKind.signed]; omega
          clear hs hA hC
          go_wp2_with fail
          refine (implLinks_is _ 0 m V k 0 C _ (E4.out.view.later HB.out) (by omega) HL.out).mono ?_
          rintro e w6 ⟨rfl, q⟩
          have HB6 : Hid (Below wa.heap.size wa w6) := HB.out.trans (q.mono HB.out.size)
          clear q HB
          go_wp2
          go_roundw
          case rel => exact ⟨k + 1, by omega, by go_num, by rw [HS.out, Int.natCast_add], HB6⟩
          case measure => simp [intOf]; omega
        case neg =>
          obtain rfl : k = 10 := by omega
          rw [HN.out.2]
          have E5 := hidT (E4.out.later HB.out)
          clear E4 HB
          obtain ⟨wb, rfl⟩ : ∃ x, x = wr := ⟨_, rfl⟩
          obtain ⟨⟨p0, p1⟩, _⟩ := E5.out.box
          go_wp2_with fail
          clear p0 p1
          go_loopw [9] (fun i wr => ∃ k : Nat, k ≤ N ∧ i = .int .i64 k ∧ Hid (Below wb.heap.size wb wr)) (fun i _ => N - (intOf i).toNat)
          case atStart => exact ⟨0, Nat.zero_le _, rfl, Below.refl _ _⟩
          case round =>
            obtain ⟨k, hk, rfl, HB⟩ := hrel
            have HE := hidT (E5.out.later HB.out)
            obtain ⟨⟨p0, p1⟩, _⟩ := HE.out.box
            by_cases hlt : k < N
            case pos =>
              obtain ⟨g, oo, hna, _, _, z0, z1, z2, z3⟩ := HE.out.nodes.at4 hlt
              have hkk := HK.out k hlt
              obtain ⟨n0, hn0⟩ : ∃ x, l.getD (k * 4) 0 = x := ⟨_, rfl⟩
              obtain ⟨n1, hn1⟩ : ∃ x, l.getD (k * 4 + 1) 0 = x := ⟨_, rfl⟩
              obtain ⟨n2, hn2⟩ : ∃ x, l.getD (k * 4 + 2) 0 = x := ⟨_, rfl⟩
              obtain ⟨n3, hn3⟩ : ∃ x, l.getD (k * 4 + 3) 0 = x := ⟨_, rfl⟩
              rw [hn0] at z0 hkk
              rw [hn1] at z1 hkk
              rw [hn2] at z2 hkk
              rw [hn3] at z3 hkk
              subst hna
              have hd1 : decide (n1 < 1) = false := decide_eq_false (by have := hkk.2.1; omega)
              have HG : Hid (l.getD (k * 4) 0 = n0 ∧ l.getD (k * 4 + 1) 0 = n1 ∧ l.getD (k * 4 + 2) 0 = n2 ∧ l.getD (k * 4 + 3) 0 = n3) := ⟨hn0, hn1, hn2, hn3⟩
              have HZ : Hid (Node4 g (oo + k * 4) n0 n1 n2 n3 wr) := ⟨z0, z1, z2, z3⟩
              clear hn0 hn1 hn2 hn3 hkk z0 z1 z2 z3
              have ff := field_tree1
              have fn := neqNode
              go_wp2_with fail
              refine wp_region_held_drew (S := fun Z : World => Blk2 Z w3.heap.size (.int .i64 0) (.slice (some ⟨g, oo, none⟩) N nc) ∧ Node4 g (oo + k * 4) n0 n1 n2 n3 Z) (by kernel_rfl) ⟨HE.out.box.later (Below.refl _ _).drew, HZ.out.later (Below.refl _ _).drew⟩ (fun hS => ?_)
              have HB1 : Hid (Below wb.heap.size wb wr.drew) := HB.out.drew
              have HV := hidT (HE.out.view.later (Below.refl _ _).drew)
              clear HE HZ HB p0 p1
              generalize wr.drew = z0 at hS HB1 HV ⊢
              refine tkH 0 ?_ hS (fun wx hx => ?_) ?_; rotate_left
              · obtain ⟨⟨⟨hx0, hx1⟩, _⟩, hy0, hy1, hy2, hy3⟩ := hx; go_simp; try with_reducible rfl
              refine tkH 1 ?_ hS (fun wx hx => ?_) ?_; rotate_left
              · obtain ⟨⟨⟨hx0, hx1⟩, _⟩, hy0, hy1, hy2, hy3⟩ := hx; go_simp; try with_reducible rfl
              refine tkH 2 ?_ hS (fun wx hx => ?_) ?_; rotate_left
              · obtain ⟨⟨⟨hx0, hx1⟩, _⟩, hy0, hy1, hy2, hy3⟩ := hx; go_simp; try with_reducible rfl
              refine tkH 3 ?_ hS (fun wx hx => ?_) ?_; rotate_left
              · obtain ⟨⟨⟨hx0, hx1⟩, _⟩, hy0, hy1, hy2, hy3⟩ := hx; go_simp; try with_reducible rfl
              refine tkH 4 ?_ hS (fun wx hx => ?_) ?_; rotate_left
              · obtain ⟨⟨⟨hx0, hx1⟩, _⟩, hy0, hy1, hy2, hy3⟩ := hx; go_simp; try with_reducible rfl
              refine tkH 5 ?_ hS (fun wx hx => ?_) ?_; rotate_left
              · obtain ⟨⟨⟨hx0, hx1⟩, _⟩, hy0, hy1, hy2, hy3⟩ := hx; go_simp; try with_reducible rfl
              refine tkH 6 ?_ hS (fun wx hx => ?_) ?_; rotate_left
              · obtain ⟨⟨⟨hx0, hx1⟩, _⟩, hy0, hy1, hy2, hy3⟩ := hx; go_simp; try with_reducible rfl
              refine tkH 7 ?_ hS (fun wx hx => ?_) ?_; rotate_left
              · obtain ⟨⟨⟨hx0, hx1⟩, _⟩, hy0, hy1, hy2, hy3⟩ := hx; go_simp; try with_reducible rfl
              refine tkH 8 ?_ hS (fun wx hx => ?_) ?_; rotate_left
              · obtain ⟨⟨⟨hx0, hx1⟩, _⟩, hy0, hy1, hy2, hy3⟩ := hx; go_simp; try with_reducible rfl
              refine tkH 9 ?_ hS (fun wx hx => ?_) ?_; rotate_left
              · obtain ⟨⟨⟨hx0, hx1⟩, _⟩, hy0, hy1, hy2, hy3⟩ := hx; go_simp; try with_reducible rfl
              refine tkH 10 ?_ hS (fun wx hx => ?_) ?_; rotate_left
              · obtain ⟨⟨⟨hx0, hx1⟩, _⟩, hy0, hy1, hy2, hy3⟩ := hx; go_simp; try with_reducible rfl
              refine tkH 11 ?_ hS (fun wx hx => ?_) ?_; rotate_left
              · obtain ⟨⟨⟨hx0, hx1⟩, _⟩, hy0, hy1, hy2, hy3⟩ := hx; go_simp; try with_reducible rfl
              refine tkH 12 ?_ hS (fun wx hx => ?_) ?_; rotate_left
              · obtain ⟨⟨⟨hx0, hx1⟩, _⟩, hy0, hy1, hy2, hy3⟩ := hx; go_simp; try with_reducible rfl
              refine tkH 13 ?_ hS (fun wx hx => ?_) ?_; rotate_left
              · obtain ⟨⟨⟨hx0, hx1⟩, _⟩, hy0, hy1, hy2, hy3⟩ := hx; go_simp; try with_reducible rfl
              refine tkH 16 ?_ hS (fun wx hx => ?_) ?_; rotate_left
              · obtain ⟨⟨⟨hx0, hx1⟩, _⟩, hy0, hy1, hy2, hy3⟩ := hx; go_simp; try with_reducible rfl
              refine rdH 14 (fun K hK => ?_)
              go_simp
              go_wp2_with fail
              refine (specTree_is _ 0 m V 0 N l _ HV.out (by omega) HA.out).mono ?_
              rintro e z1 ⟨v1, rfl, hO1, q⟩
              have hrow1 := hO1.rowL.1
              obtain ⟨sa, sc, rfl⟩ := hrow1.form
              have hS1 := And.intro (hS.1.later q) (hS.2.later q)
              have HB2 : Hid (Below wb.heap.size wb z1) := HB1.out.trans (q.mono HB1.out.size)
              have HR1 := hidT hrow1
              clear q hS HB1 HV hO1 hrow1
              obtain ⟨g1, o1, rfl, _, _, y0, y1, y2, y3⟩ := HR1.out.at4 hlt
              rw [HG.out.1] at y0
              rw [HG.out.2.1] at y1
              rw [HG.out.2.2.1] at y2
              rw [HG.out.2.2.2] at y3
              go_wp2_with fail
              refine hK.out _ _ hS1 (fun hS => ?_)
              clear hK K
              clear hS1
              refine tkH 15 ?_ hS (fun wx hx => ?_) ?_; rotate_left
              · obtain ⟨⟨⟨hx0, hx1⟩, _⟩, hy0, hy1, hy2, hy3⟩ := hx; go_simp; try with_reducible rfl
              refine tkH 17 ?_ hS (fun wx hx => ?_) ?_; rotate_left
              · obtain ⟨⟨⟨hx0, hx1⟩, _⟩, hy0, hy1, hy2, hy3⟩ := hx; go_simp; try with_reducible rfl
              refine rdH 18 (fun K hK => ?_)
              go_simp
              refine hK.out _ _ hS (fun hS => ?_)
              clear hK K
              clear y0 y1 y2 y3 HR1
              refine tkH 19 ?_ hS (fun wx hx => ?_) ?_; rotate_left
              · obtain ⟨⟨⟨hx0, hx1⟩, _⟩, hy0, hy1, hy2, hy3⟩ := hx; go_simp; try with_reducible rfl
              refine tkH 20 ?_ hS (fun wx hx => ?_) ?_; rotate_left
              · obtain ⟨⟨⟨hx0, hx1⟩, _⟩, hy0, hy1, hy2, hy3⟩ := hx; go_simp; try with_reducible rfl
              clear hS
              refine wpAnyH_done (by kernel_rfl) ?_ _
              go_simp
              go_wp2
              go_roundw
              case rel => (repeat apply Exists.intro); exact ⟨⟨k + 1, by omega, by go_num, HB2⟩, rfl⟩
              case measure => simp [intOf]; omega
            case neg =>
              obtain rfl : N = k := by omega
              have HTC : Hid (treeC (fun p => l.getD p 0) N = 0) := by
                unfold Hid treeC
                rw [if_neg (by omega), if_pos]
                intro j hj
                have := HK.out j hj
                unfold OkN at this
                unfold NodeOk
                simp only
                omega
              obtain ⟨tx, htx⟩ : ∃ tx, treeX (fun p => l.getD p 0) N = tx := ⟨_, rfl⟩
              have HTX := hidT htx
              clear htx E5 HB
              go_wp2_with fail
              refine (implTreeText_is _ N _ 0 (fun p => l.getD p 0) _ HE.out.nodes (by omega) HE.out.pow).mono ?_
              rintro e w7 ⟨rfl, q⟩
              rw [HTC.out, HTX.out]
              have E7 := hidT (And.intro ((HE.out.later q).later (below_alloc w7 (.cells #[.int .i64 0, .string tx] 42))) (Blk2.new w7 (.int .i64 0) (.string tx) 42))
              clear q HE p0 p1
              obtain ⟨⟨p0, p1⟩, _⟩ := E7.out.1.box
              have ff := field_tree1
              have ft := field_text1
              go_wp2_with fail
              refine wp_region_held_drew (S := fun Z : World => Blk2 Z w3.heap.size (.int .i64 0) (.slice na N nc) ∧ Blk2 Z w7.heap.size (.int .i64 0) (.string tx)) (by kernel_rfl) ⟨E7.out.1.box.later (Below.refl _ _).drew, E7.out.2.later (Below.refl _ _).drew⟩ (fun hS => ?_)
              have HE := hidT (E7.out.1.later (Below.refl _ _).drew)
              clear E7 p0 p1
              generalize (w7.alloc (.cells #[.int .i64 0, .string tx] 42)).drew = z0 at hS HE ⊢
              refine tkH 0 ?_ hS (fun wx hx => ?_) ?_; rotate_left
              · obtain ⟨⟨⟨hx0, hx1⟩, _⟩, ⟨hy0, hy1⟩, _⟩ := hx; go_simp; try with_reducible rfl
              refine tkH 1 ?_ hS (fun wx hx => ?_) ?_; rotate_left
              · obtain ⟨⟨⟨hx0, hx1⟩, _⟩, ⟨hy0, hy1⟩, _⟩ := hx; go_simp; try with_reducible rfl
              refine tkH 2 ?_ hS (fun wx hx => ?_) ?_; rotate_left
              · obtain ⟨⟨⟨hx0, hx1⟩, _⟩, ⟨hy0, hy1⟩, _⟩ := hx; go_simp; try with_reducible rfl
              refine tkH 3 ?_ hS (fun wx hx => ?_) ?_; rotate_left
              · obtain ⟨⟨⟨hx0, hx1⟩, _⟩, ⟨hy0, hy1⟩, _⟩ := hx; go_simp; try with_reducible rfl
              refine tkH 4 ?_ hS (fun wx hx => ?_) ?_; rotate_left
              · obtain ⟨⟨⟨hx0, hx1⟩, _⟩, ⟨hy0, hy1⟩, _⟩ := hx; go_simp; try with_reducible rfl
              refine tkH 5 ?_ hS (fun wx hx => ?_) ?_; rotate_left
              · obtain ⟨⟨⟨hx0, hx1⟩, _⟩, ⟨hy0, hy1⟩, _⟩ := hx; go_simp; try with_reducible rfl
              refine tkH 6 ?_ hS (fun wx hx => ?_) ?_; rotate_left
              · obtain ⟨⟨⟨hx0, hx1⟩, _⟩, ⟨hy0, hy1⟩, _⟩ := hx; go_simp; try with_reducible rfl
              refine tkH 7 ?_ hS (fun wx hx => ?_) ?_; rotate_left
              · obtain ⟨⟨⟨hx0, hx1⟩, _⟩, ⟨hy0, hy1⟩, _⟩ := hx; go_simp; try with_reducible rfl
              refine tkH 8 ?_ hS (fun wx hx => ?_) ?_; rotate_left
              · obtain ⟨⟨⟨hx0, hx1⟩, _⟩, ⟨hy0, hy1⟩, _⟩ := hx; go_simp; try with_reducible rfl
              refine tkH 9 ?_ hS (fun wx hx => ?_) ?_; rotate_left
              · obtain ⟨⟨⟨hx0, hx1⟩, _⟩, ⟨hy0, hy1⟩, _⟩ := hx; go_simp; try with_reducible rfl
              refine tkH 10 ?_ hS (fun wx hx => ?_) ?_; rotate_left
              · obtain ⟨⟨⟨hx0, hx1⟩, _⟩, ⟨hy0, hy1⟩, _⟩ := hx; go_simp; try with_reducible rfl
              refine tkH 11 ?_ hS (fun wx hx => ?_) ?_; rotate_left
              · obtain ⟨⟨⟨hx0, hx1⟩, _⟩, ⟨hy0, hy1⟩, _⟩ := hx; go_simp; try with_reducible rfl
              refine tkH 12 ?_ hS (fun wx hx => ?_) ?_; rotate_left
              · obtain ⟨⟨⟨hx0, hx1⟩, _⟩, ⟨hy0, hy1⟩, _⟩ := hx; go_simp; try with_reducible rfl
              refine tkH 13 ?_ hS (fun wx hx => ?_) ?_; rotate_left
              · obtain ⟨⟨⟨hx0, hx1⟩, _⟩, ⟨hy0, hy1⟩, _⟩ := hx; go_simp; try with_reducible rfl
              refine tkH 14 ?_ hS (fun wx hx => ?_) ?_; rotate_left
              · obtain ⟨⟨⟨hx0, hx1⟩, _⟩, ⟨hy0, hy1⟩, _⟩ := hx; go_simp; try with_reducible rfl
              refine tkH 15 ?_ hS (fun wx hx => ?_) ?_; rotate_left
              · obtain ⟨⟨⟨hx0, hx1⟩, _⟩, ⟨hy0, hy1⟩, _⟩ := hx; go_simp; try with_reducible rfl
              refine tkH 16 ?_ hS (fun wx hx => ?_) ?_; rotate_left
              · obtain ⟨⟨⟨hx0, hx1⟩, _⟩, ⟨hy0, hy1⟩, _⟩ := hx; go_simp; try with_reducible rfl
              refine tkH 17 ?_ hS (fun wx hx => ?_) ?_; rotate_left
              · obtain ⟨⟨⟨hx0, hx1⟩, _⟩, ⟨hy0, hy1⟩, _⟩ := hx; go_simp; try with_reducible rfl
              refine tkH 18 ?_ hS (fun wx hx => ?_) ?_; rotate_left
              · obtain ⟨⟨⟨hx0, hx1⟩, _⟩, ⟨hy0, hy1⟩, _⟩ := hx; go_simp; try with_reducible rfl
              refine tkH 19 ?_ hS (fun wx hx => ?_) ?_; rotate_left
              · obtain ⟨⟨⟨hx0, hx1⟩, _⟩, ⟨hy0, hy1⟩, _⟩ := hx; go_simp; try with_reducible rfl
              refine rdH 20 (fun K hK => ?_)
              go_simp
              go_wp2_with fail
              refine (specTree_is _ 0 m V 0 N l _ HE.out.view (by omega) HA.out).mono ?_
              rintro e z1 ⟨v1, rfl, hO1, q⟩
              obtain ⟨sa, sc, rfl⟩ := hO1.rowL.1.form
              clear hO1
              have hS1 := And.intro (hS.1.later q) (hS.2.later q)
              have H1 := hidT (HE.out.later q)
              clear q HE hS
              have HE := H1
              clear H1
              go_wp2_with fail
              refine hK.out _ _ hS1 (fun hS => ?_)
              clear hK K
              clear hS1
              refine tkH 21 ?_ hS (fun wx hx => ?_) ?_; rotate_left
              · obtain ⟨⟨⟨hx0, hx1⟩, _⟩, ⟨hy0, hy1⟩, _⟩ := hx; go_simp; try with_reducible rfl
              refine tkH 22 ?_ hS (fun wx hx => ?_) ?_; rotate_left
              · obtain ⟨⟨⟨hx0, hx1⟩, _⟩, ⟨hy0, hy1⟩, _⟩ := hx; go_simp; try with_reducible rfl
              refine tkH 23 ?_ hS (fun wx hx => ?_) ?_; rotate_left
              · obtain ⟨⟨⟨hx0, hx1⟩, _⟩, ⟨hy0, hy1⟩, _⟩ := hx; go_simp; try with_reducible rfl
              refine tkH 24 ?_ hS (fun wx hx => ?_) ?_; rotate_left
              · obtain ⟨⟨⟨hx0, hx1⟩, _⟩, ⟨hy0, hy1⟩, _⟩ := hx; go_simp; try with_reducible rfl
              refine tkH 25 ?_ hS (fun wx hx => ?_) ?_; rotate_left
              · obtain ⟨⟨⟨hx0, hx1⟩, _⟩, ⟨hy0, hy1⟩, _⟩ := hx; go_simp; try with_reducible rfl
              refine tkH 26 ?_ hS (fun wx hx => ?_) ?_; rotate_left
              · obtain ⟨⟨⟨hx0, hx1⟩, _⟩, ⟨hy0, hy1⟩, _⟩ := hx; go_simp; try with_reducible rfl
              refine tkH 27 ?_ hS (fun wx hx => ?_) ?_; rotate_left
              · obtain ⟨⟨⟨hx0, hx1⟩, _⟩, ⟨hy0, hy1⟩, _⟩ := hx; go_simp; try with_reducible rfl
              refine tkH 28 ?_ hS (fun wx hx => ?_) ?_; rotate_left
              · obtain ⟨⟨⟨hx0, hx1⟩, _⟩, ⟨hy0, hy1⟩, _⟩ := hx; go_simp; try with_reducible rfl
              refine tkH 29 ?_ hS (fun wx hx => ?_) ?_; rotate_left
              · obtain ⟨⟨⟨hx0, hx1⟩, _⟩, ⟨hy0, hy1⟩, _⟩ := hx; go_simp; try with_reducible rfl
              refine rdH 30 (fun K hK => ?_)
              go_simp
              go_wp2_with fail
              refine (specTreeText_is _ N _ 0 (fun p => l.getD p 0) _ HE.out.nodes (by omega)).mono ?_
              rintro e z2 ⟨rfl, q⟩
              rw [HTC.out, HTX.out]
              have hS1 := And.intro (hS.1.later q) (hS.2.later q)
              have H1 := hidT (HE.out.later q)
              clear q HE hS
              have HE := H1
              clear H1
              go_wp2_with fail
              refine hK.out _ _ hS1 (fun hS => ?_)
              clear hK K
              clear hS1
              refine tkH 31 ?_ hS (fun wx hx => ?_) ?_; rotate_left
              · obtain ⟨⟨⟨hx0, hx1⟩, _⟩, ⟨hy0, hy1⟩, _⟩ := hx; go_simp; try with_reducible rfl
              refine tkH 32 ?_ hS (fun wx hx => ?_) ?_; rotate_left
              · obtain ⟨⟨⟨hx0, hx1⟩, _⟩, ⟨hy0, hy1⟩, _⟩ := hx; go_simp; try with_reducible rfl
              refine tkH 33 ?_ hS (fun wx hx => ?_) ?_; rotate_left
              · obtain ⟨⟨⟨hx0, hx1⟩, _⟩, ⟨hy0, hy1⟩, _⟩ := hx; go_simp; try with_reducible rfl
              refine tkH 34 ?_ hS (fun wx hx => ?_) ?_; rotate_left
              · obtain ⟨⟨⟨hx0, hx1⟩, _⟩, ⟨hy0, hy1⟩, _⟩ := hx; go_simp; try with_reducible rfl
              refine tkH 35 ?_ hS (fun wx hx => ?_) ?_; rotate_left
              · obtain ⟨⟨⟨hx0, hx1⟩, _⟩, ⟨hy0, hy1⟩, _⟩ := hx; go_simp; try with_reducible rfl
              refine rdH 36 (fun K hK => ?_)
              go_simp
              go_wp2_with fail
              refine (implFs_is _ 0 m V _ HE.out.view (by omega)).mono ?_
              rintro e z3 ⟨rfl, q⟩
              rw [HF.out.1]
              have hS1 := And.intro (hS.1.later q) (hS.2.later q)
              have H1 := hidT (HE.out.later q)
              clear q HE hS
              have HE := H1
              clear H1
              go_wp2_with fail
              refine hK.out _ _ hS1 (fun hS => ?_)
              clear hK K
              clear hS1
              refine tkH 37 ?_ hS (fun wx hx => ?_) ?_; rotate_left
              · obtain ⟨⟨⟨hx0, hx1⟩, _⟩, ⟨hy0, hy1⟩, _⟩ := hx; go_simp; try with_reducible rfl
              refine tkH 38 ?_ hS (fun wx hx => ?_) ?_; rotate_left
              · obtain ⟨⟨⟨hx0, hx1⟩, _⟩, ⟨hy0, hy1⟩, _⟩ := hx; go_simp; try with_reducible rfl
              refine tkH 39 ?_ hS (fun wx hx => ?_) ?_; rotate_left
              · obtain ⟨⟨⟨hx0, hx1⟩, _⟩, ⟨hy0, hy1⟩, _⟩ := hx; go_simp; try with_reducible rfl
              refine tkH 40 ?_ hS (fun wx hx => ?_) ?_; rotate_left
              · obtain ⟨⟨⟨hx0, hx1⟩, _⟩, ⟨hy0, hy1⟩, _⟩ := hx; go_simp; try with_reducible rfl
              refine rdH 41 (fun K hK => ?_)
              go_simp
              go_wp2_with fail
              refine (specFs_is _ 0 m V _ HE.out.view (by omega)).mono ?_
              rintro e z4 ⟨rfl, q⟩
              rw [HF.out.1]
              have hS1 := And.intro (hS.1.later q) (hS.2.later q)
              have H1 := hidT (HE.out.later q)
              clear q HE hS
              have HE := H1
              clear H1
              go_wp2_with fail
              refine hK.out _ _ hS1 (fun hS => ?_)
              clear hK K
              clear hS1
              refine tkH 42 ?_ hS (fun wx hx => ?_) ?_; rotate_left
              · obtain ⟨⟨⟨hx0, hx1⟩, _⟩, ⟨hy0, hy1⟩, _⟩ := hx; go_simp; try with_reducible rfl
              refine tkH 43 ?_ hS (fun wx hx => ?_) ?_; rotate_left
              · obtain ⟨⟨⟨hx0, hx1⟩, _⟩, ⟨hy0, hy1⟩, _⟩ := hx; go_simp; try with_reducible rfl
              refine tkH 44 ?_ hS (fun wx hx => ?_) ?_; rotate_left
              · obtain ⟨⟨⟨hx0, hx1⟩, _⟩, ⟨hy0, hy1⟩, _⟩ := hx; go_simp; try with_reducible rfl
              clear hS
              refine wpAnyH_done (by kernel_rfl) ?_ _
              go_simp
              have BB := hidT HE.out.below
              clear HE
              go_wp2
              go_ret
              exact ⟨by simp, BB.out⟩
end Go.Proofs.YtbpppaolcgibnaaGreatDoor

