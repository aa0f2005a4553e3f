/-
  Own text. The model's l2Part: the part of a store, in new rows.
-/
import Derived.Test.YtpfmbfmlpoibeaaGreatPartA
import Derived.Test.YtpfmbfmlpoibeaaGreatColsK
import Derived.Deep.RegionLaw
import Derived.Deep.AppendLies
namespace Go.Proofs.YtpfmbfmlpoibeaaGreat
open Go.RowKit

theorem apartD_of {w : World} {B0 B1 z1 z2 : Nat} {S : Sto} {u0 u1 u2 : Value} (hz : z1 ≤ z2) (h0 : 0 < S.nc → ∀ k, u0.ownBlock = some k → k < z1) (h1 : 0 < S.nl → ∀ k, u1.ownBlock = some k → z1 ≤ k ∧ k < z2) (h2 : 0 < S.nw → ∀ k, u2.ownBlock = some k → z2 ≤ k) (r0 : Row w B0 3 S.nc S.c u0) (r1 : Row w B1 5 S.nl S.l u1) : ApartD S u0 u1 u2 := by
  have own : ∀ {B m n : Nat} {F : Nat → Int} {u : Value}, Row w B m n F u → 0 < n → ∃ k, u.ownBlock = some k := fun hr hn => by
    obtain ⟨ao, cp, rfl, hr⟩ := hr
    obtain ⟨g, o, rfl, _⟩ := hr hn
    exact ⟨g, rfl⟩
  refine ⟨fun ha hb e => ?_, fun ha hb e => ?_, fun ha hb e => ?_⟩
  · obtain ⟨k, hk⟩ := own r0 ha
    have := h0 ha k hk; have := h1 hb k (e ▸ hk); omega
  · obtain ⟨k, hk⟩ := own r0 ha
    have := h0 ha k hk; have := h2 hb k (e ▸ hk); omega
  · obtain ⟨k, hk⟩ := own r1 ha
    have := h1 ha k hk; have := h2 hb k (e ▸ hk); omega
set_option maxRecDepth 100000 in
set_option maxHeartbeats 16000000 in
theorem l2Part_anyO (S : Sto) (b oo : Nat) (v0 v1 v2 : Value) (fr to : Int) (w : World) (h : LiesO w b oo S v0 v1 v2) (hn : S.nc ≤ 200 ∧ S.nl ≤ 200 ∧ S.nw ≤ 200) (ht : 0 ≤ to ∧ to ≤ 200) :
    Calls Tryz.prog 124 #[.pointer (some ⟨b, oo, none⟩), .int .i64 fr, .int .i64 to] w (NewSto w (partS S fr to)) := by
  obtain ⟨a0, c0, a1, c1, a2, c2, rfl, rfl, rfl⟩ := h.2.form
  have H : Hid (LiesO w b oo S (.slice a0 S.nc c0) (.slice a1 S.nl c1) (.slice a2 S.nw c2)) := h
  obtain ⟨p0, p1, p2⟩ := h.1
  have hb := h.lt
  obtain ⟨hn0, hn1, hn2⟩ := hn
  obtain ⟨ht0, ht1⟩ := ht
  obtain ⟨hi, hhi⟩ : ∃ hi, to - 1 = hi := ⟨_, rfl⟩
  have hwr : IntKind.i64.wrap (to - 1) = hi := by
    rw [← hhi]
    simp [IntKind.wrap, IntKind.bits, IntKind.signed]
    omega
  unfold partS NewSto
  rw [hhi]
  clear h hhi
  obtain ⟨i0, hi0, hz00, hz10, hz20⟩ := info_parts info_Cell
  obtain ⟨i1, hi1, hz01, hz11, hz21⟩ := info_parts info_Lock
  obtain ⟨i2, hi2, hz02, hz12, hz22⟩ := info_parts info_Write
  obtain ⟨z0, hz0⟩ : ∃ z, w.heap.size + 2 = z := ⟨_, rfl⟩
  obtain ⟨D0, hD0, hT0⟩ : ∃ D : World → Prop, (∀ x, D x ↔ z0 ≤ x.heap.size) ∧ Stays w z0 D := ⟨fun x => z0 ≤ x.heap.size, fun _ => Iff.rfl, hz0 ▸ Stays.none w⟩
  have HT0 : Hid (Stays w z0 D0) := hT0
  have HZ0 : Hid (∀ x, D0 x → z0 ≤ x.heap.size) := fun x hx => (hD0 x).1 hx
  have E0 : Hid (PartEnv w (.slice none 0 0) (.slice none 0 0) (.slice none 0 0) ((w.alloc (.cells #[.slice none 0 0, .slice none 0 0, .slice none 0 0] 37)).alloc (.cells #[.slice none 0 0, .slice none 0 0, .slice none 0 0] 37))) := ⟨(Blk3.new w _ _ _ _).alloc _, by have := Blk3.new (w.alloc (.cells #[.slice none 0 0, .slice none 0 0, .slice none 0 0] 37)) (.slice none 0 0) (.slice none 0 0) (.slice none 0 0) 37; rw [World.size_alloc] at this; exact this, (below_alloc _ _).alloc (by simp) _⟩
  have MA0 : Hid (Mak w z0 D0 140 3 (.slice none 0 0) (.slice none 0 0) (.slice none 0 0) (.slice none 0 0) 0 [] ((w.alloc (.cells #[.slice none 0 0, .slice none 0 0, .slice none 0 0] 37)).alloc (.cells #[.slice none 0 0, .slice none 0 0, .slice none 0 0] 37))) := ⟨E0.out, (hD0 _).2 (by simp; omega), OwnM.nil _ _ _ _⟩
  clear hT0 hD0 E0
  go_enter Tryz.func124, Tryz.ntmps124
  go_wp2
  go_loopw [8] (fun i wr => ∃ (k : Nat) (ao : Option Addr) (cp : Nat), i = .int .i64 k ∧ k ≤ S.nc ∧ Hid (Mak w z0 D0 140 3 (.slice ao (keepN S.c 3 fr hi k) cp) (.slice none 0 0) (.slice none 0 0) (.slice ao (keepN S.c 3 fr hi k) cp) (keepN S.c 3 fr hi k) (keepL S.c 3 fr hi k) wr)) (fun i _ => S.nc - (intOf i).toNat)
  case atStart => exact ⟨0, none, 0, rfl, Nat.zero_le _, MA0⟩
  case round =>
    clear MA0
    obtain ⟨k, ao, cp, rfl, hk, HS⟩ := hrel
    have hbw := HS.out.1.2.2
    have e0 := (hbw.cell (p := ⟨b, oo, none⟩) hb).trans p0
    have hbr : b < wr.heap.size := Nat.lt_of_lt_of_le hb hbw.size
    by_cases hlt : k < S.nc
    case neg =>
      have en : k = S.nc := by omega
      subst en
      obtain ⟨d0, hd⟩ : ∃ d, d = ao := ⟨_, rfl⟩
      obtain ⟨y0, he⟩ : ∃ e, e = cp := ⟨_, rfl⟩
      subst hd he
      have DD := HS.out.2.2.done (keep_length _ _ _ _ _)
      obtain ⟨z1, hz⟩ : ∃ z, wr.heap.size = z := ⟨_, rfl⟩
      have zle : z0 ≤ z1 := by rw [← hz]; exact HZ0.out wr HS.out.2.1
      rw [hz] at DD
      obtain ⟨D1, hD, hT, hE⟩ : ∃ D : World → Prop, D wr ∧ Stays w z1 D ∧ ∀ x, D x → z1 ≤ x.heap.size ∧ D0 x ∧ Done x z0 z1 3 (keepN S.c 3 fr hi S.nc) (keepF S.c 3 fr hi S.nc) (.slice d0 (keepN S.c 3 fr hi S.nc) y0) := ⟨_, ⟨by omega, HS.out.2.1, DD⟩, HT0.out.more zle, fun _ h => h⟩
      have HT1 : Hid (Stays w z1 D1) := hT
      have HZ1 : Hid (∀ x, D1 x → z1 ≤ x.heap.size) := fun x hx => (hE x hx).1
      have HE1 : Hid (z0 ≤ z1 ∧ ∀ x, D1 x → D0 x ∧ Done x z0 z1 3 (keepN S.c 3 fr hi S.nc) (keepF S.c 3 fr hi S.nc) (.slice d0 (keepN S.c 3 fr hi S.nc) y0)) := ⟨zle, fun x hx => (hE x hx).2⟩
      have MA1 : Hid (Mak w z1 D1 96 5 (.slice d0 (keepN S.c 3 fr hi S.nc) y0) (.slice none 0 0) (.slice none 0 0) (.slice none 0 0) 0 [] wr) := ⟨HS.out.1, hD, OwnM.nil _ _ _ _⟩
      clear DD zle hz hD hT hE HS
      go_wp2
      go_loopw [9] (fun i wr => ∃ (k : Nat) (ao : Option Addr) (cp : Nat), i = .int .i64 k ∧ k ≤ S.nl ∧ Hid (Mak w z1 D1 96 5 (.slice d0 (keepN S.c 3 fr hi S.nc) y0) (.slice ao (keepN S.l 5 fr hi k) cp) (.slice none 0 0) (.slice ao (keepN S.l 5 fr hi k) cp) (keepN S.l 5 fr hi k) (keepL S.l 5 fr hi k) wr)) (fun i _ => S.nl - (intOf i).toNat)
      case atStart => exact ⟨0, none, 0, rfl, Nat.zero_le _, MA1⟩
      case round =>
        clear MA1
        obtain ⟨k, ao, cp, rfl, hk, HS⟩ := hrel
        have hbw := HS.out.1.2.2
        have e0 := (hbw.cell (p := ⟨b, oo + 1, none⟩) hb).trans p1
        have hbr : b < wr.heap.size := Nat.lt_of_lt_of_le hb hbw.size
        by_cases hlt : k < S.nl
        case neg =>
          have en : k = S.nl := by omega
          subst en
          obtain ⟨d1, hd⟩ : ∃ d, d = ao := ⟨_, rfl⟩
          obtain ⟨y1, he⟩ : ∃ e, e = cp := ⟨_, rfl⟩
          subst hd he
          have DD := HS.out.2.2.done (keep_length _ _ _ _ _)
          obtain ⟨z2, hz⟩ : ∃ z, wr.heap.size = z := ⟨_, rfl⟩
          have zle : z1 ≤ z2 := by rw [← hz]; exact HZ1.out wr HS.out.2.1
          rw [hz] at DD
          obtain ⟨D2, hD, hT, hE⟩ : ∃ D : World → Prop, D wr ∧ Stays w z2 D ∧ ∀ x, D x → z2 ≤ x.heap.size ∧ D1 x ∧ Done x z1 z2 5 (keepN S.l 5 fr hi S.nl) (keepF S.l 5 fr hi S.nl) (.slice d1 (keepN S.l 5 fr hi S.nl) y1) := ⟨_, ⟨by omega, HS.out.2.1, DD⟩, HT1.out.more zle, fun _ h => h⟩
          have HT2 : Hid (Stays w z2 D2) := hT
          have HZ2 : Hid (∀ x, D2 x → z2 ≤ x.heap.size) := fun x hx => (hE x hx).1
          have HE2 : Hid (z1 ≤ z2 ∧ ∀ x, D2 x → D1 x ∧ Done x z1 z2 5 (keepN S.l 5 fr hi S.nl) (keepF S.l 5 fr hi S.nl) (.slice d1 (keepN S.l 5 fr hi S.nl) y1)) := ⟨zle, fun x hx => (hE x hx).2⟩
          have MA2 : Hid (Mak w z2 D2 45 4 (.slice d0 (keepN S.c 3 fr hi S.nc) y0) (.slice d1 (keepN S.l 5 fr hi S.nl) y1) (.slice none 0 0) (.slice none 0 0) 0 [] wr) := ⟨HS.out.1, hD, OwnM.nil _ _ _ _⟩
          clear DD zle hz hD hT hE HS
          go_wp2
          go_loopw [10] (fun i wr => ∃ (k : Nat) (ao : Option Addr) (cp : Nat), i = .int .i64 k ∧ k ≤ S.nw ∧ Hid (Mak w z2 D2 45 4 (.slice d0 (keepN S.c 3 fr hi S.nc) y0) (.slice d1 (keepN S.l 5 fr hi S.nl) y1) (.slice ao (keepN S.k 4 fr hi k) cp) (.slice ao (keepN S.k 4 fr hi k) cp) (keepN S.k 4 fr hi k) (keepL S.k 4 fr hi k) wr)) (fun i _ => S.nw - (intOf i).toNat)
          case atStart => exact ⟨0, none, 0, rfl, Nat.zero_le _, MA2⟩
          case round =>
            clear MA2
            obtain ⟨k, ao, cp, rfl, hk, HS⟩ := hrel
            have hbw := HS.out.1.2.2
            have e0 := (hbw.cell (p := ⟨b, oo + 2, none⟩) hb).trans p2
            have hbr : b < wr.heap.size := Nat.lt_of_lt_of_le hb hbw.size
            by_cases hlt : k < S.nw
            case neg =>
              have en : k = S.nw := by omega
              subst en
              obtain ⟨d2, hd⟩ : ∃ d, d = ao := ⟨_, rfl⟩
              obtain ⟨y2, he⟩ : ∃ e, e = cp := ⟨_, rfl⟩
              subst hd he
              obtain ⟨⟨r0, r1, r2⟩, f0, f1, f2⟩ := HS.out.1.1
              obtain ⟨⟨s0, s1, s2⟩, _⟩ := HS.out.1.2.1
              have D2' := HE2.out.2 _ HS.out.2.1
              have D1' := HE1.out.2 _ D2'.1
              have DW := HS.out.2.2.done (keep_length _ _ _ _ _)
              have R : Hid ((St wr z0 ⟨(keepN S.c 3 fr hi S.nc), (keepF S.c 3 fr hi S.nc), (keepN S.l 5 fr hi S.nl), (keepF S.l 5 fr hi S.nl), (keepN S.k 4 fr hi S.nw), (keepF S.k 4 fr hi S.nw)⟩ (.slice d0 (keepN S.c 3 fr hi S.nc) y0) (.slice d1 (keepN S.l 5 fr hi S.nl) y1) (.slice d2 (keepN S.k 4 fr hi S.nw) y2) ∧ FreeS wr ⟨(keepN S.c 3 fr hi S.nc), (keepF S.c 3 fr hi S.nc), (keepN S.l 5 fr hi S.nl), (keepF S.l 5 fr hi S.nl), (keepN S.k 4 fr hi S.nw), (keepF S.k 4 fr hi S.nw)⟩ (.slice d0 (keepN S.c 3 fr hi S.nc) y0) (.slice d1 (keepN S.l 5 fr hi S.nl) y1) (.slice d2 (keepN S.k 4 fr hi S.nw) y2)) ∧ ApartD ⟨(keepN S.c 3 fr hi S.nc), (keepF S.c 3 fr hi S.nc), (keepN S.l 5 fr hi S.nl), (keepF S.l 5 fr hi S.nl), (keepN S.k 4 fr hi S.nw), (keepF S.k 4 fr hi S.nw)⟩ (.slice d0 (keepN S.c 3 fr hi S.nc) y0) (.slice d1 (keepN S.l 5 fr hi S.nl) y1) (.slice d2 (keepN S.k 4 fr hi S.nw) y2)) :=
                ⟨⟨⟨D1'.2.1.1, D2'.2.1.1.mono HE1.out.1, DW.1.1.mono (Nat.le_trans HE1.out.1 HE2.out.1)⟩, D1'.2.1.2, D2'.2.1.2, DW.1.2⟩,
                  apartD_of (z1 := z1) (z2 := z2) HE2.out.1 D1'.2.2 (fun h0 k hk => ⟨(D2'.2.1.1.lt h0 k hk).1, D2'.2.2 h0 k hk⟩) (fun h0 k hk => (DW.1.1.lt h0 k hk).1) D1'.2.1.1 D2'.2.1.1⟩
              have hne : ¬ w.heap.size + 1 = w.heap.size := by omega
              have hlo0 : w.heap.size < z0 := by omega
              have HB : Hid (Below w.heap.size w wr) := HS.out.1.2.2
              clear HS D1' D2' DW
              go_wp2
              exact bodyPost_ret (v := .agg #[.slice d0 (keepN S.c 3 fr hi S.nc) y0, .slice d1 (keepN S.l 5 fr hi S.nl) y1, .slice d2 (keepN S.k 4 fr hi S.nw) y2]) (by simp [results, Tryz.results124, go_sem, r0, r1, r2]) rfl ⟨d0, y0, d1, y1, d2, y2, rfl, ⟨((((R.out.1.1.far hlo0 _).far hlo0 _).far hlo0 _).mono (by omega)), ((R.out.1.2.far _ _).far _ _).far _ _, R.out.2⟩, ((HB.out.setCell (Nat.le_refl _) _).setCell (Nat.le_refl _) _).setCell (Nat.le_refl _) _⟩
            obtain ⟨g, o, rfl, _, hg, x0, x1, x2, x3⟩ := H.out.2.2.2.at4 hlt
            replace x0 := (hbw.cell (p := ⟨g, o + k * 4, none⟩) hg).trans x0
            replace x1 := (hbw.cell (p := ⟨g, o + k * 4 + 1, none⟩) hg).trans x1
            replace x2 := (hbw.cell (p := ⟨g, o + k * 4 + 2, none⟩) hg).trans x2
            replace x3 := (hbw.cell (p := ⟨g, o + k * 4 + 3, none⟩) hg).trans x3
            have hgr : g < wr.heap.size := Nat.lt_of_lt_of_le hg hbw.size
            obtain ⟨n0, N0⟩ : ∃ x, S.k (k * 4) = x := ⟨_, rfl⟩
            rw [N0] at x0
            obtain ⟨n1, N1⟩ : ∃ x, S.k (k * 4 + 1) = x := ⟨_, rfl⟩
            rw [N1] at x1
            obtain ⟨n2, N2⟩ : ∃ x, S.k (k * 4 + 2) = x := ⟨_, rfl⟩
            rw [N2] at x2
            obtain ⟨n3, N3⟩ : ∃ x, S.k (k * 4 + 3) = x := ⟨_, rfl⟩
            rw [N3] at x3
            have NN : Hid (S.k (k * 4) = n0 ∧ S.k (k * 4 + 1) = n1 ∧ S.k (k * 4 + 2) = n2 ∧ S.k (k * 4 + 3) = n3) := ⟨N0, N1, N2, N3⟩
            by_cases hin : fr ≤ n0 ∧ n0 ≤ hi
            case neg =>
              have HI : Hid (decide (fr ≤ n0 ∧ n0 ≤ hi) = false) := decide_eq_false hin
              have M1 : Hid (Mak w z2 D2 45 4 (.slice d0 (keepN S.c 3 fr hi S.nc) y0) (.slice d1 (keepN S.l 5 fr hi S.nl) y1) (.slice ao (keepN S.k 4 fr hi (k + 1)) cp) (.slice ao (keepN S.k 4 fr hi (k + 1)) cp) (keepN S.k 4 fr hi (k + 1)) (keepL S.k 4 fr hi (k + 1)) wr) := by
                have h1 := keep_no (F := S.k) (m := 4) (a := fr) (b := hi) (k := k) (by rw [N0]; exact hin)
                unfold Hid
                rw [h1.1, h1.2]
                exact HS.out
              clear N0 N1 N2 N3 NN hin HS
              go_wp2_with fail
              refine (l1In_is _ _ _ false HI.out _).mono ?_
              rintro e w1 ⟨rfl, rfl⟩
              go_wp2
              go_roundw
              case rel => exact ⟨k + 1, ao, cp, by go_num, by omega, M1⟩
              case measure => simp [intOf]; omega
            have HI : Hid (decide (fr ≤ n0 ∧ n0 ≤ hi) = true) := decide_eq_true hin
            have HL : Hid ((keepL S.k 4 fr hi (k + 1)) = (keepL S.k 4 fr hi k) ++ [n0, n1, n2, n3] ∧ (keepN S.k 4 fr hi (k + 1)) = (keepN S.k 4 fr hi k) + 1) := by
              have h1 := keep_yes (F := S.k) (m := 4) (a := fr) (b := hi) (k := k) (by rw [N0]; exact hin)
              refine ⟨h1.1.trans ?_, h1.2⟩
              rw [show (List.range 4).map (fun q => S.k (k * 4 + q)) = [S.k (k * 4), S.k (k * 4 + 1), S.k (k * 4 + 2), S.k (k * 4 + 3)] from rfl, N0, N1, N2, N3]
            have hnle := keep_le S.k 4 fr hi k
            obtain ⟨nn, hnn⟩ : ∃ nn, (keepN S.k 4 fr hi k) = nn := ⟨_, rfl⟩
            rw [hnn] at hnle HS
            have HNN : Hid ((keepN S.k 4 fr hi k) = nn) := hnn
            have HA : Hid (Mak w z2 D2 45 4 (.slice d0 (keepN S.c 3 fr hi S.nc) y0) (.slice d1 (keepN S.l 5 fr hi S.nl) y1) (.slice ao nn cp) (.slice ao nn cp) nn (keepL S.k 4 fr hi k) (wr.alloc (.cells #[.int .i64 n0, .int .i64 n1, .int .i64 n2, .int .i64 n3] 45)).drew) := HS.out.later HT2.out (below_alloc _ _).drew
            have s2 := HS.out.1.2.1.1.2.2
            have fz2 := HS.out.1.2.1.2.2.2
            have fa2 : (wr.alloc (.cells #[.int .i64 n0, .int .i64 n1, .int .i64 n2, .int .i64 n3] 45)).frozen? ⟨w.heap.size + 1, 2, none⟩ = false := HA.out.1.2.1.2.2.2
            have fb2 : (wr.alloc (.cells #[.int .i64 n0, .int .i64 n1, .int .i64 n2, .int .i64 n3] 45)).drew.frozen? ⟨w.heap.size + 1, 2, none⟩ = false := HA.out.1.2.1.2.2.2
            have zs := HS.out.1.2.1.lt
            have hob := HS.out.2.2.block
            have hlo := HT2.out.lo
            have nq : ∀ q, q < w.heap.size + 2 → some q ≠ (Value.slice ao nn cp).ownBlock := fun q hq e => by have := hob q e.symm; omega
            have hzw : z2 ≤ wr.heap.size := HZ2.out wr HS.out.2.1
            clear N0 N1 N2 N3 NN hin HS hob
            clear hnn
            go_wp2_with fail
            refine (l1In_is _ _ _ true HI.out _).mono ?_
            rintro e w1 ⟨rfl, rfl⟩
            go_wp2_with fail
            go_region_law ((refine step_append_lies _ (by rfl) _ _ 35 (by rfl) z2 45 i2 (.agg #[.int .i64 0, .int .i64 0, .int .i64 0, .int .i64 0]) 4 32 Tryz.underlying35 hi2 hz02 hz12 hz22 rfl (by omega) (.slice ao nn cp) nn _ (by rfl) HA.out.2.2 ⟨w1.heap.size, 0, none⟩ 1 1 [.int .i64 n0, .int .i64 n1, .int .i64 n2, .int .i64 n3] (by rfl) (by rfl) (World.news_of_block (cs := #[.int .i64 n0, .int .i64 n1, .int .i64 n2, .int .i64 n3]) (t := 45) (fr := (0, 0)) (heap_alloc_new w1 _)) (by simp [Value.oneCell']) (by omega) (by unfold maxLen; omega) (by omega) (by simp; omega) (w1.heap.size + 1) (by simp) ?_; intro gg cap w5 ho hgrow hat hlt5; have F2 : OwnM w5 z2 45 4 (.slice (some ⟨gg, 0, none⟩) (keepN S.k 4 fr hi (k + 1)) cap) (keepN S.k 4 fr hi (k + 1)) (keepL S.k 4 fr hi (k + 1)) := (by unfold OwnM; rw [HL.out.1, HL.out.2, HNN.out, List.map_append]; exact ho); have M5 := HA.out.step HT2.out hgrow F2; rw [HL.out.2, HNN.out] at M5; have t2 := M5.1.2.1.1.2.2; have g2 := M5.1.2.1.2.2.2; have M6 : Hid (Mak w z2 D2 45 4 (.slice d0 (keepN S.c 3 fr hi S.nc) y0) (.slice d1 (keepN S.l 5 fr hi S.nl) y1) (.slice (some ⟨gg, 0, none⟩) (nn + 1) cap) (.slice (some ⟨gg, 0, none⟩) (nn + 1) cap) (nn + 1) (keepL S.k 4 fr hi (k + 1)) (w5.setCell ⟨w.heap.size + 1, 2, none⟩ (.slice (some ⟨gg, 0, none⟩) (nn + 1) cap))) := M5.set2 HT2.out; clear M5 F2))
            all_goals
              clear HA s2 zs fz2 fa2 fb2
              go_wp2
              go_roundw
              case rel => exact ⟨k + 1, some ⟨gg, 0, none⟩, cap, by go_num, by omega, by rw [HL.out.2, HNN.out]; exact M6⟩
              case measure => simp [intOf]; omega
        obtain ⟨g, o, rfl, _, hg, x0, x1, x2, x3, x4⟩ := H.out.2.2.1.at5 hlt
        replace x0 := (hbw.cell (p := ⟨g, o + k * 5, none⟩) hg).trans x0
        replace x1 := (hbw.cell (p := ⟨g, o + k * 5 + 1, none⟩) hg).trans x1
        replace x2 := (hbw.cell (p := ⟨g, o + k * 5 + 2, none⟩) hg).trans x2
        replace x3 := (hbw.cell (p := ⟨g, o + k * 5 + 3, none⟩) hg).trans x3
        replace x4 := (hbw.cell (p := ⟨g, o + k * 5 + 4, none⟩) hg).trans x4
        have hgr : g < wr.heap.size := Nat.lt_of_lt_of_le hg hbw.size
        obtain ⟨n0, N0⟩ : ∃ x, S.l (k * 5) = x := ⟨_, rfl⟩
        rw [N0] at x0
        obtain ⟨n1, N1⟩ : ∃ x, S.l (k * 5 + 1) = x := ⟨_, rfl⟩
        rw [N1] at x1
        obtain ⟨n2, N2⟩ : ∃ x, S.l (k * 5 + 2) = x := ⟨_, rfl⟩
        rw [N2] at x2
        obtain ⟨n3, N3⟩ : ∃ x, S.l (k * 5 + 3) = x := ⟨_, rfl⟩
        rw [N3] at x3
        obtain ⟨n4, N4⟩ : ∃ x, S.l (k * 5 + 4) = x := ⟨_, rfl⟩
        rw [N4] at x4
        have NN : Hid (S.l (k * 5) = n0 ∧ S.l (k * 5 + 1) = n1 ∧ S.l (k * 5 + 2) = n2 ∧ S.l (k * 5 + 3) = n3 ∧ S.l (k * 5 + 4) = n4) := ⟨N0, N1, N2, N3, N4⟩
        by_cases hin : fr ≤ n0 ∧ n0 ≤ hi
        case neg =>
          have HI : Hid (decide (fr ≤ n0 ∧ n0 ≤ hi) = false) := decide_eq_false hin
          have M1 : Hid (Mak w z1 D1 96 5 (.slice d0 (keepN S.c 3 fr hi S.nc) y0) (.slice ao (keepN S.l 5 fr hi (k + 1)) cp) (.slice none 0 0) (.slice ao (keepN S.l 5 fr hi (k + 1)) cp) (keepN S.l 5 fr hi (k + 1)) (keepL S.l 5 fr hi (k + 1)) wr) := by
            have h1 := keep_no (F := S.l) (m := 5) (a := fr) (b := hi) (k := k) (by rw [N0]; exact hin)
            unfold Hid
            rw [h1.1, h1.2]
            exact HS.out
          clear N0 N1 N2 N3 N4 NN hin HS
          go_wp2_with fail
          refine (l1In_is _ _ _ false HI.out _).mono ?_
          rintro e w1 ⟨rfl, rfl⟩
          go_wp2
          go_roundw
          case rel => exact ⟨k + 1, ao, cp, by go_num, by omega, M1⟩
          case measure => simp [intOf]; omega
        have HI : Hid (decide (fr ≤ n0 ∧ n0 ≤ hi) = true) := decide_eq_true hin
        have HL : Hid ((keepL S.l 5 fr hi (k + 1)) = (keepL S.l 5 fr hi k) ++ [n0, n1, n2, n3, n4] ∧ (keepN S.l 5 fr hi (k + 1)) = (keepN S.l 5 fr hi k) + 1) := by
          have h1 := keep_yes (F := S.l) (m := 5) (a := fr) (b := hi) (k := k) (by rw [N0]; exact hin)
          refine ⟨h1.1.trans ?_, h1.2⟩
          rw [show (List.range 5).map (fun q => S.l (k * 5 + q)) = [S.l (k * 5), S.l (k * 5 + 1), S.l (k * 5 + 2), S.l (k * 5 + 3), S.l (k * 5 + 4)] from rfl, N0, N1, N2, N3, N4]
        have hnle := keep_le S.l 5 fr hi k
        obtain ⟨nn, hnn⟩ : ∃ nn, (keepN S.l 5 fr hi k) = nn := ⟨_, rfl⟩
        rw [hnn] at hnle HS
        have HNN : Hid ((keepN S.l 5 fr hi k) = nn) := hnn
        have HA : Hid (Mak w z1 D1 96 5 (.slice d0 (keepN S.c 3 fr hi S.nc) y0) (.slice ao nn cp) (.slice none 0 0) (.slice ao nn cp) nn (keepL S.l 5 fr hi k) (wr.alloc (.cells #[.int .i64 n0, .int .i64 n1, .int .i64 n2, .int .i64 n3, .int .i64 n4] 96)).drew) := HS.out.later HT1.out (below_alloc _ _).drew
        have s1 := HS.out.1.2.1.1.2.1
        have fz1 := HS.out.1.2.1.2.2.1
        have fa1 : (wr.alloc (.cells #[.int .i64 n0, .int .i64 n1, .int .i64 n2, .int .i64 n3, .int .i64 n4] 96)).frozen? ⟨w.heap.size + 1, 1, none⟩ = false := HA.out.1.2.1.2.2.1
        have fb1 : (wr.alloc (.cells #[.int .i64 n0, .int .i64 n1, .int .i64 n2, .int .i64 n3, .int .i64 n4] 96)).drew.frozen? ⟨w.heap.size + 1, 1, none⟩ = false := HA.out.1.2.1.2.2.1
        have zs := HS.out.1.2.1.lt
        have hob := HS.out.2.2.block
        have hlo := HT1.out.lo
        have nq : ∀ q, q < w.heap.size + 2 → some q ≠ (Value.slice ao nn cp).ownBlock := fun q hq e => by have := hob q e.symm; omega
        have hzw : z1 ≤ wr.heap.size := HZ1.out wr HS.out.2.1
        clear N0 N1 N2 N3 N4 NN hin HS hob
        clear hnn
        go_wp2_with fail
        refine (l1In_is _ _ _ true HI.out _).mono ?_
        rintro e w1 ⟨rfl, rfl⟩
        go_wp2_with fail
        go_region_law ((refine step_append_lies _ (by rfl) _ _ 34 (by rfl) z1 96 i1 (.agg #[.int .i64 0, .int .i64 0, .int .i64 0, .int .i64 0, .int .i64 0]) 5 40 Tryz.underlying34 hi1 hz01 hz11 hz21 rfl (by omega) (.slice ao nn cp) nn _ (by rfl) HA.out.2.2 ⟨w1.heap.size, 0, none⟩ 1 1 [.int .i64 n0, .int .i64 n1, .int .i64 n2, .int .i64 n3, .int .i64 n4] (by rfl) (by rfl) (World.news_of_block (cs := #[.int .i64 n0, .int .i64 n1, .int .i64 n2, .int .i64 n3, .int .i64 n4]) (t := 96) (fr := (0, 0)) (heap_alloc_new w1 _)) (by simp [Value.oneCell']) (by omega) (by unfold maxLen; omega) (by omega) (by simp; omega) (w1.heap.size + 1) (by simp) ?_; intro gg cap w5 ho hgrow hat hlt5; have F2 : OwnM w5 z1 96 5 (.slice (some ⟨gg, 0, none⟩) (keepN S.l 5 fr hi (k + 1)) cap) (keepN S.l 5 fr hi (k + 1)) (keepL S.l 5 fr hi (k + 1)) := (by unfold OwnM; rw [HL.out.1, HL.out.2, HNN.out, List.map_append]; exact ho); have M5 := HA.out.step HT1.out hgrow F2; rw [HL.out.2, HNN.out] at M5; have t1 := M5.1.2.1.1.2.1; have g1 := M5.1.2.1.2.2.1; have M6 : Hid (Mak w z1 D1 96 5 (.slice d0 (keepN S.c 3 fr hi S.nc) y0) (.slice (some ⟨gg, 0, none⟩) (nn + 1) cap) (.slice none 0 0) (.slice (some ⟨gg, 0, none⟩) (nn + 1) cap) (nn + 1) (keepL S.l 5 fr hi (k + 1)) (w5.setCell ⟨w.heap.size + 1, 1, none⟩ (.slice (some ⟨gg, 0, none⟩) (nn + 1) cap))) := M5.set1 HT1.out; clear M5 F2))
        all_goals
          clear HA s1 zs fz1 fa1 fb1
          go_wp2
          go_roundw
          case rel => exact ⟨k + 1, some ⟨gg, 0, none⟩, cap, by go_num, by omega, by rw [HL.out.2, HNN.out]; exact M6⟩
          case measure => simp [intOf]; omega
    obtain ⟨g, o, rfl, _, hg, x0, x1, x2⟩ := H.out.2.1.at3 hlt
    replace x0 := (hbw.cell (p := ⟨g, o + k * 3, none⟩) hg).trans x0
    replace x1 := (hbw.cell (p := ⟨g, o + k * 3 + 1, none⟩) hg).trans x1
    replace x2 := (hbw.cell (p := ⟨g, o + k * 3 + 2, none⟩) hg).trans x2
    have hgr : g < wr.heap.size := Nat.lt_of_lt_of_le hg hbw.size
    obtain ⟨n0, N0⟩ : ∃ x, S.c (k * 3) = x := ⟨_, rfl⟩
    rw [N0] at x0
    obtain ⟨n1, N1⟩ : ∃ x, S.c (k * 3 + 1) = x := ⟨_, rfl⟩
    rw [N1] at x1
    obtain ⟨n2, N2⟩ : ∃ x, S.c (k * 3 + 2) = x := ⟨_, rfl⟩
    rw [N2] at x2
    have NN : Hid (S.c (k * 3) = n0 ∧ S.c (k * 3 + 1) = n1 ∧ S.c (k * 3 + 2) = n2) := ⟨N0, N1, N2⟩
    by_cases hin : fr ≤ n0 ∧ n0 ≤ hi
    case neg =>
      have HI : Hid (decide (fr ≤ n0 ∧ n0 ≤ hi) = false) := decide_eq_false hin
      have M1 : Hid (Mak w z0 D0 140 3 (.slice ao (keepN S.c 3 fr hi (k + 1)) cp) (.slice none 0 0) (.slice none 0 0) (.slice ao (keepN S.c 3 fr hi (k + 1)) cp) (keepN S.c 3 fr hi (k + 1)) (keepL S.c 3 fr hi (k + 1)) wr) := by
        have h1 := keep_no (F := S.c) (m := 3) (a := fr) (b := hi) (k := k) (by rw [N0]; exact hin)
        unfold Hid
        rw [h1.1, h1.2]
        exact HS.out
      clear N0 N1 N2 NN hin HS
      go_wp2_with fail
      refine (l1In_is _ _ _ false HI.out _).mono ?_
      rintro e w1 ⟨rfl, rfl⟩
      go_wp2
      go_roundw
      case rel => exact ⟨k + 1, ao, cp, by go_num, by omega, M1⟩
      case measure => simp [intOf]; omega
    have HI : Hid (decide (fr ≤ n0 ∧ n0 ≤ hi) = true) := decide_eq_true hin
    have HL : Hid ((keepL S.c 3 fr hi (k + 1)) = (keepL S.c 3 fr hi k) ++ [n0, n1, n2] ∧ (keepN S.c 3 fr hi (k + 1)) = (keepN S.c 3 fr hi k) + 1) := by
      have h1 := keep_yes (F := S.c) (m := 3) (a := fr) (b := hi) (k := k) (by rw [N0]; exact hin)
      refine ⟨h1.1.trans ?_, h1.2⟩
      rw [show (List.range 3).map (fun q => S.c (k * 3 + q)) = [S.c (k * 3), S.c (k * 3 + 1), S.c (k * 3 + 2)] from rfl, N0, N1, N2]
    have hnle := keep_le S.c 3 fr hi k
    obtain ⟨nn, hnn⟩ : ∃ nn, (keepN S.c 3 fr hi k) = nn := ⟨_, rfl⟩
    rw [hnn] at hnle HS
    have HNN : Hid ((keepN S.c 3 fr hi k) = nn) := hnn
    have HA : Hid (Mak w z0 D0 140 3 (.slice ao nn cp) (.slice none 0 0) (.slice none 0 0) (.slice ao nn cp) nn (keepL S.c 3 fr hi k) (wr.alloc (.cells #[.int .i64 n0, .int .i64 n1, .int .i64 n2] 140)).drew) := HS.out.later HT0.out (below_alloc _ _).drew
    have s0 := HS.out.1.2.1.1.1
    have fz0 := HS.out.1.2.1.2.1
    have fa0 : (wr.alloc (.cells #[.int .i64 n0, .int .i64 n1, .int .i64 n2] 140)).frozen? ⟨w.heap.size + 1, 0, none⟩ = false := HA.out.1.2.1.2.1
    have fb0 : (wr.alloc (.cells #[.int .i64 n0, .int .i64 n1, .int .i64 n2] 140)).drew.frozen? ⟨w.heap.size + 1, 0, none⟩ = false := HA.out.1.2.1.2.1
    have zs := HS.out.1.2.1.lt
    have hob := HS.out.2.2.block
    have hlo := HT0.out.lo
    have nq : ∀ q, q < w.heap.size + 2 → some q ≠ (Value.slice ao nn cp).ownBlock := fun q hq e => by have := hob q e.symm; omega
    have hzw : z0 ≤ wr.heap.size := HZ0.out wr HS.out.2.1
    clear N0 N1 N2 NN hin HS hob
    clear hnn
    go_wp2_with fail
    refine (l1In_is _ _ _ true HI.out _).mono ?_
    rintro e w1 ⟨rfl, rfl⟩
    go_wp2_with fail
    go_region_law ((refine step_append_lies _ (by rfl) _ _ 33 (by rfl) z0 140 i0 (.agg #[.int .i64 0, .int .i64 0, .int .i64 0]) 3 24 Tryz.underlying33 hi0 hz00 hz10 hz20 rfl (by omega) (.slice ao nn cp) nn _ (by rfl) HA.out.2.2 ⟨w1.heap.size, 0, none⟩ 1 1 [.int .i64 n0, .int .i64 n1, .int .i64 n2] (by rfl) (by rfl) (World.news_of_block (cs := #[.int .i64 n0, .int .i64 n1, .int .i64 n2]) (t := 140) (fr := (0, 0)) (heap_alloc_new w1 _)) (by simp [Value.oneCell']) (by omega) (by unfold maxLen; omega) (by omega) (by simp; omega) (w1.heap.size + 1) (by simp) ?_; intro gg cap w5 ho hgrow hat hlt5; have F2 : OwnM w5 z0 140 3 (.slice (some ⟨gg, 0, none⟩) (keepN S.c 3 fr hi (k + 1)) cap) (keepN S.c 3 fr hi (k + 1)) (keepL S.c 3 fr hi (k + 1)) := (by unfold OwnM; rw [HL.out.1, HL.out.2, HNN.out, List.map_append]; exact ho); have M5 := HA.out.step HT0.out hgrow F2; rw [HL.out.2, HNN.out] at M5; have t0 := M5.1.2.1.1.1; have g0 := M5.1.2.1.2.1; have M6 : Hid (Mak w z0 D0 140 3 (.slice (some ⟨gg, 0, none⟩) (nn + 1) cap) (.slice none 0 0) (.slice none 0 0) (.slice (some ⟨gg, 0, none⟩) (nn + 1) cap) (nn + 1) (keepL S.c 3 fr hi (k + 1)) (w5.setCell ⟨w.heap.size + 1, 0, none⟩ (.slice (some ⟨gg, 0, none⟩) (nn + 1) cap))) := M5.set0 HT0.out; clear M5 F2))
    all_goals
      clear HA s0 zs fz0 fa0 fb0
      go_wp2
      go_roundw
      case rel => exact ⟨k + 1, some ⟨gg, 0, none⟩, cap, by go_num, by omega, by rw [HL.out.2, HNN.out]; exact M6⟩
      case measure => simp [intOf]; omega
theorem l2Part_any (S : Sto) (b : Nat) (v0 v1 v2 : Value) (fr to : Int) (w : World) (h : Lies w b S v0 v1 v2) (hn : S.nc ≤ 200 ∧ S.nl ≤ 200 ∧ S.nw ≤ 200) (ht : 0 ≤ to ∧ to ≤ 200) :
    Calls Tryz.prog 124 #[.pointer (some ⟨b, 0, none⟩), .int .i64 fr, .int .i64 to] w (NewSto w (partS S fr to)) := l2Part_anyO S b 0 v0 v1 v2 fr to w h.o hn ht
end Go.Proofs.YtpfmbfmlpoibeaaGreat
