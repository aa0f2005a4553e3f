/-
  Own text, merged of ColsA, FsC, IntsA, AppR, TxnL, MarkA, AddC, CopyA, FsD, EntA, TreE, TreL, TreM, FsL, FsO, FsQ, FsR, TreN, TreO, TreP, TnfA, TreQ.
-/
import Derived.Test.YtokaoiiibakkoaaPk4
import Derived.Recover
import Derived.ShutString
namespace Go.Proofs.Ytokaoiiibakkoaa
open Go.RowKit

theorem Row.at4 {w : World} {B n : Nat} {F : Nat → Int} {ao : Option Addr} {cp : Nat} (h : Row w B 4 n F (.slice ao n cp)) {k : Nat} (hk : k < n) :
    ∃ g o, ao = some ⟨g, o, none⟩ ∧ B ≤ g ∧ g < w.heap.size ∧ w.cell? ⟨g, o + k * 4, none⟩ = some (.int .i64 (F (k * 4))) ∧ w.cell? ⟨g, o + k * 4 + 1, none⟩ = some (.int .i64 (F (k * 4 + 1))) ∧ w.cell? ⟨g, o + k * 4 + 2, none⟩ = some (.int .i64 (F (k * 4 + 2))) ∧ w.cell? ⟨g, o + k * 4 + 3, none⟩ = some (.int .i64 (F (k * 4 + 3))) := by
  obtain ⟨g, o, ha, hB, hg, hc⟩ := h.at hk
  exact ⟨g, o, ha, hB, hg, hc 0 (by omega), hc 1 (by omega), hc 2 (by omega), hc 3 (by omega)⟩
theorem Fill.ofRow {w : World} {B m n g o cp : Nat} {F G : Nat → Int} (h : Row w B m n F (.slice (some ⟨g, o, none⟩) n cp)) (hf : Free w (n * m) (.slice (some ⟨g, o, none⟩) n cp)) (hn : 0 < n) : Fill w g o (n * m) 0 G := by
  obtain ⟨ao, cp', hv, h⟩ := h
  obtain ⟨g', o', rfl, _, hg, hc⟩ := h hn
  simp only [Value.slice.injEq, Option.some.injEq, Addr.mk.injEq] at hv
  obtain ⟨⟨rfl, rfl, _⟩, _, rfl⟩ := hv
  exact ⟨hg, fun p hp => ⟨⟨_, hc p hp⟩, hf _ _ _ _ rfl p hp⟩, fun p hp => absurd hp (Nat.not_lt_zero p)⟩
theorem Free.ofRow {w w' : World} {B m n : Nat} {F : Nat → Int} {v : Value} (h : Free w (n * m) v) (hr : Row w B m n F v) (hb : Below w.heap.size w w') : Free w' (n * m) v := by
  rcases Nat.eq_zero_or_pos n with e | e
  · subst e; rw [Nat.zero_mul]; exact Free.of0 _ _
  · exact h.later (fun k hk => (hr.lt e k hk).2) hb

end Go.Proofs.Ytokaoiiibakkoaa

namespace Go.Proofs.Ytokaoiiibakkoaa
open Go.RowKit

theorem of_entry {a b : Int} (h : 0 ≤ a ∧ a ≤ 9) (hb : 0 ≤ b ∧ b ≤ 5) : (ofBoth 2 a b).2 = kE a b := by rw [ofBoth_ok (by omega) (by omega) (by omega)]; rfl
set_option maxRecDepth 100000 in
set_option maxHeartbeats 400000 in
theorem entryKey_is (a b : Int) (ha : 0 ≤ a ∧ a ≤ 9) (hb : 0 ≤ b ∧ b ≤ 5) (w : World) :
    Calls Try.prog 57 #[.int .i64 a, .int .i64 b] w fun e w' => e = .returned (.int .i64 (kE a b)) ∧ Below w.heap.size w w' := by
  have fi := fun c v w => field_int1 c v w
  go_enter Try.func57, Try.ntmps57
  go_wp2_with fail
  refine (implKeyOf_any 2 a b _).mono ?_
  rintro e w1 ⟨rfl, rfl⟩
  rw [of_entry ha hb]
  go_wp2
  go_ret
  exact ⟨rfl, below_alloc _ _⟩
set_option maxHeartbeats 400000 in
theorem ofE_is (a b : Int) (ha : 0 ≤ a ∧ a ≤ 9) (hb : 0 ≤ b ∧ b ≤ 5) (w : World) :
    Calls Try.prog 43 #[.int .i64 2, .int .i64 a, .int .i64 b] w fun e w' => e = .returned (.int .i64 (kE a b)) ∧ w' = w := by
  go_enter Try.func43, Try.ntmps43
  go_wp2
  go_ret
  exact ⟨by first | rfl | (unfold kI; rfl) | (unfold kE; rfl) | (unfold kB; rfl), rfl⟩
end Go.Proofs.Ytokaoiiibakkoaa

namespace Go.Proofs.Ytokaoiiibakkoaa
open Go.RowKit

/-- n numbers from k on. -/
def up (k : Int) (n : Nat) : List Int := (List.range n).map (fun j => k + (j : Nat))
end Go.Proofs.Ytokaoiiibakkoaa

namespace Go.Proofs.Ytokaoiiibakkoaa
section
open Go.RowKit
theorem OwnM.lit0 (Y : World) (b : Nat) (e : TypeId) (m : Nat) (hb : Y.heap.size = b) : OwnM (Y.alloc (.cells #[] e)) b e m (.slice (some ⟨b, 0, none⟩) 0 0) 0 [] := by
  subst hb
  exact World.ownsRow_lit Y #[] 0 (Nat.le_refl _) (Nat.zero_le _) (by simp)
end
end Go.Proofs.Ytokaoiiibakkoaa

namespace Go.Proofs.Ytokaoiiibakkoaa
open Go.RowKit

theorem Row.at1 {w : World} {B n : Nat} {F : Nat → Int} {ao : Option Addr} {cp : Nat} (h : Row w B 1 n F (.slice ao n cp)) {k : Nat} (hk : k < n) :
    ∃ g o, ao = some ⟨g, o, none⟩ ∧ B ≤ g ∧ g < w.heap.size ∧ w.cell? ⟨g, o + k, none⟩ = some (.int .i64 (F k)) := by
  obtain ⟨g, o, ha, hB, hg, hc⟩ := h.at hk
  exact ⟨g, o, ha, hB, hg, by have := hc 0 (by omega); simpa using this⟩
end Go.Proofs.Ytokaoiiibakkoaa

namespace Go.Proofs.Ytokaoiiibakkoaa
open Go.RowKit

theorem Fill.step {w : World} {g o N K : Nat} {F : Nat → Int} (h : Fill w g o N K F) (hK : K < N) {a : Nat} (ha : a = o + K) {x : Int} (hx : x = F K) : Fill (w.setCell ⟨g, a, none⟩ (.int .i64 x)) g o N (K + 1) F := by
  subst ha hx
  exact h.put hK
theorem grownBy_set {w x : World} {g : Nat} (h : w.grownBy x (some g)) (a : Nat) (u : Value) : w.grownBy (x.setCell ⟨g, a, none⟩ u) (some g) :=
  ⟨h.os, h.tape, h.output, by simpa [World.setCell] using h.size, fun k hk hne => (Below.heap_setCell x _ u k (fun e => hne (by rw [e]))).trans (h.block k hk hne)⟩
/-- A row half numbered: of n elements the first j. -/
def Marked (w x : World) (B m n j : Nat) (k0 : Int) (ao : Option Addr) (cp : Nat) : Prop :=
  (0 < n → ∃ g o, ao = some ⟨g, o, none⟩ ∧ B ≤ g ∧ Fill x g o (n * m) (j * m) (fun p => k0 + (p : Nat))) ∧ w.grownBy x (Value.slice ao n cp).ownBlock
theorem Marked.start {w : World} {B m n : Nat} {F : Nat → Int} {ao : Option Addr} {cp : Nat} (h : Row w B m n F (.slice ao n cp)) (hf : Free w (n * m) (.slice ao n cp)) (k0 : Int) : Marked w w B m n 0 k0 ao cp := by
  refine ⟨fun hn => ?_, rfl, rfl, rfl, Nat.le_refl _, fun _ _ _ => rfl⟩
  have h0 := h
  obtain ⟨ao', cp', hv, h⟩ := h
  simp only [Value.slice.injEq] at hv
  obtain ⟨rfl, _, rfl⟩ := hv
  obtain ⟨g, o, rfl, hB, _⟩ := h hn
  exact ⟨g, o, rfl, hB, by rw [Nat.zero_mul]; exact Fill.ofRow h0 hf hn⟩
theorem Marked.done {w x : World} {B m n : Nat} {k0 : Int} {ao : Option Addr} {cp : Nat} (h : Marked w x B m n n k0 ao cp) : Row x B m n (fun p => k0 + (p : Nat)) (.slice ao n cp) ∧ Free x (n * m) (.slice ao n cp) := by
  rcases Nat.eq_zero_or_pos n with e | e
  · subst e
    exact ⟨⟨_, _, rfl, fun q => absurd q (Nat.lt_irrefl 0)⟩, by rw [Nat.zero_mul]; exact Free.of0 _ _⟩
  · obtain ⟨g, o, rfl, hB, hF⟩ := h.1 e
    exact hF.row hB cp
set_option maxRecDepth 100000 in
set_option maxHeartbeats 2000000 in
theorem markPairS_any (v : Value) (B n : Nat) (F : Nat → Int) (k0 : Int) (w : World) (h : Row w B 2 n F v) (hf : Free w (n * 2) v) (hn : n ≤ 1048576) (hk0 : 0 ≤ k0) (hk1 : k0 ≤ 100000000) :
    Calls Try.prog 14 #[v, .int .i64 k0] w fun e w' => e = .returned (.int .i64 (k0 + n * 2)) ∧ Row w' B 2 n (fun p => k0 + (p : Nat)) v ∧ Free w' (n * 2) v ∧ w.grownBy w' v.ownBlock := by
  obtain ⟨ao, cp, rfl⟩ := h.form
  have H0 : Hid (Marked w w B 2 n 0 k0 ao cp) := Marked.start h hf k0
  clear h hf
  go_enter Try.func14, Try.ntmps14
  go_wp2
  go_loopw [1, 5] (fun k i wr => ∃ j : Nat, j ≤ n ∧ i = .int .i64 j ∧ k = .int .i64 (k0 + j * 2) ∧ Hid (Marked w wr B 2 n j k0 ao cp)) (fun _ i _ => n - (intOf i).toNat)
  case atStart => exact ⟨0, Nat.zero_le _, rfl, by go_num, H0⟩
  case round =>
    obtain ⟨j, hj, rfl, rfl, hM⟩ := hrel
    by_cases hlt : j < n
    · obtain ⟨g, o, rfl, hB, hF⟩ := hM.out.1 (by omega)
      obtain ⟨u0, c0, e0⟩ := hF.at (p := j * 2) (by omega)
      obtain ⟨u1, c1, e1⟩ := hF.at (p := j * 2 + 1) (by omega)
      simp only [← Nat.add_assoc] at c0 e0 c1 e1
      have HF : Hid (Fill wr g o (n * 2) (j * 2) (fun p => k0 + (p : Nat)) ∧ w.grownBy wr (some g)) := ⟨hF, hM.out.2⟩
      clear hF hM H0
      go_wp2
      go_roundw
      case rel => exact ⟨j + 1, by omega, by go_num, by go_num, fun _ => ⟨g, o, rfl, hB, by rw [Nat.succ_mul]; exact ((HF.out.1.step (by omega) (by omega) (by omega)).step (by omega) (by omega) (by omega))⟩, (grownBy_set (grownBy_set HF.out.2 _ _) _ _)⟩
      case measure => simp [intOf]; omega
    · obtain rfl : j = n := by omega
      go_wp2
      go_ret
      exact ⟨rfl, hM.out.done.1, hM.out.done.2, hM.out.2⟩
theorem Within.of {B E : Nat} {x x' : World} {row : Option Nat} (h : x.grownBy x' row) (hr : ∀ b, row = some b → B ≤ b ∧ b < E) : Within B E x x' :=
  ⟨h.os, h.tape, h.output, h.size, fun k hk ho => h.block k hk (fun e => by have := hr k e.symm; omega)⟩
/-- The block that is turned by numbering: none, if there is nothing. -/
def turn (n : Nat) (v : Value) : Option Nat := if n = 0 then none else v.ownBlock
set_option maxHeartbeats 1000000 in
theorem markPairS_none (ao : Option Addr) (cp : Nat) (k0 : Int) (w : World) :
    Calls Try.prog 14 #[.slice ao 0 cp, .int .i64 k0] w fun e w' => e = .returned (.int .i64 k0) ∧ w' = w := by
  go_enter Try.func14, Try.ntmps14
  go_wp2
  go_loop [1, 5] (fun k i => i = .int .i64 0 ∧ k = .int .i64 k0) (fun _ i => 1 - (intOf i).toNat)
  case atStart => exact ⟨rfl, rfl⟩
  case round =>
    obtain ⟨rfl, rfl⟩ := hrel
    go_wp2
    go_ret
    exact ⟨rfl, rfl⟩
theorem markPairS_turn (v : Value) (B n : Nat) (F : Nat → Int) (k0 : Int) (w : World) (h : Row w B 2 n F v) (hf : Free w (n * 2) v) (hn : n ≤ 1048576) (hk0 : 0 ≤ k0) (hk1 : k0 ≤ 100000000) :
    Calls Try.prog 14 #[v, .int .i64 k0] w fun e w' => e = .returned (.int .i64 (k0 + n * 2)) ∧ Row w' B 2 n (fun p => k0 + (p : Nat)) v ∧ Free w' (n * 2) v ∧ w.grownBy w' (turn n v) := by
  rcases Nat.eq_zero_or_pos n with e | e
  · subst e
    obtain ⟨ao, cp, rfl⟩ := h.form
    refine (markPairS_none ao cp k0 w).mono fun e w' ⟨he, hw⟩ => ?_
    subst hw
    exact ⟨by rw [he]; simp, ⟨_, _, rfl, fun q => absurd q (Nat.lt_irrefl 0)⟩, hf, rfl, rfl, rfl, Nat.le_refl _, fun _ _ _ => rfl⟩
  · refine (markPairS_any v B n F k0 w h hf hn hk0 hk1).mono fun e' w' ⟨he, h1, h2, h3⟩ => ⟨he, h1, h2, ?_⟩
    unfold turn
    rw [if_neg (by omega)]
    exact h3
theorem turn_off {n : Nat} {v : Value} {P : Nat → Prop} (h : 0 < n → ∀ k, v.ownBlock = some k → P k) : ∀ b, turn n v = some b → P b := by
  intro b hb
  unfold turn at hb
  split at hb
  · cases hb
  · exact h (by omega) b hb
end Go.Proofs.Ytokaoiiibakkoaa

namespace Go.Proofs.Ytokaoiiibakkoaa
section
open Go.RowKit
theorem row_lit4 (w : World) (x0 x1 x2 x3 : Int) (t : TypeId) : Row (w.alloc (.cells #[.int .i64 x0, .int .i64 x1, .int .i64 x2, .int .i64 x3] t)) 0 4 1 (fun p => [x0, x1, x2, x3].getD p 0) (.slice (some ⟨w.heap.size, 0, none⟩) 1 1) := by
  refine ⟨_, _, rfl, fun _ => ⟨w.heap.size, 0, rfl, Nat.zero_le _, by simp, fun p hp => ?_⟩⟩
  rw [Nat.zero_add, World.cell?_alloc_mark]
  match p, hp with
  | 0, _ => rfl
  | 1, _ => rfl
  | 2, _ => rfl
  | 3, _ => rfl
end

section
open Go.RowKit
end

section
open Go.RowKit
end
end Go.Proofs.Ytokaoiiibakkoaa

namespace Go.Proofs.Ytokaoiiibakkoaa
open Go.RowKit

/-- An empty row in a block of its own. -/
def Em (c : World) (q : Nat) (e : TypeId) : Prop := c.heap[q]? = some (.cells #[] e)
theorem Em.lt {c : World} {q : Nat} {e : TypeId} (h : Em c q e) : q < c.heap.size := (Array.getElem?_eq_some_iff.1 h).1
theorem Em.grown {c c' : World} {q q' : Nat} {e : TypeId} (h : Em c q e) (hg : c.grownBy c' (some q')) (hne : q ≠ q') : Em c' q e := (hg.block q h.lt (by simp; exact hne)).trans h
theorem Em.later {c c' : World} {q : Nat} {e : TypeId} (h : Em c q e) (hb : Below c.heap.size c c') : Em c' q e := (hb.block q h.lt).trans h
theorem Em.new (c : World) (e : TypeId) : Em (c.alloc (.cells #[] e)) c.heap.size e := heap_alloc_new c _
end Go.Proofs.Ytokaoiiibakkoaa

namespace Go.Proofs.Ytokaoiiibakkoaa
open Go.RowKit

theorem kE_ok {d m : Int} (hd : 0 ≤ d ∧ d ≤ 9) (hm : 0 ≤ m ∧ m ≤ 5) : faultOf (kE d m) = 0 := by
  obtain ⟨d', rfl⟩ := Int.eq_ofNat_of_zero_le hd.1
  obtain ⟨m', rfl⟩ := Int.eq_ofNat_of_zero_le hm.1
  have h1 : d' < 10 := by omega
  have h2 : m' < 6 := by omega
  have : ∀ a, a < 10 → ∀ b, b < 6 → faultOf (kE (a : Nat) (b : Nat)) = 0 := by decide
  exact this d' h1 m' h2
end Go.Proofs.Ytokaoiiibakkoaa

namespace Go.Proofs.Ytokaoiiibakkoaa
open Go.RowKit

/-- The names that have an entry, from i on, j of them to be asked. -/
def entP (L : Prs) (d : Int) : Nat → Int → List Int → List Int
  | 0, _, xs => xs
  | j + 1, i, xs => entP L d j (i + 1) (if (lookF L (kE d i)).1 = true then xs ++ [i] else xs)
theorem ent_len (L : Prs) (d : Int) : ∀ (j : Nat) (i : Int) (xs : List Int), (entP L d j i xs).length ≤ xs.length + j
  | 0, _, xs => Nat.le_refl _
  | j + 1, i, xs => by
    rw [entP]
    split
    · have := ent_len L d j (i + 1) (xs ++ [i]); simp at this; omega
    · have := ent_len L d j (i + 1) xs; omega
theorem ent_step {L : Prs} {d : Int} {k : Nat} (hk : k < 6) {acc : List Int} {th : Bool} {tz : Int} (ht : lookF L (kE d k) = (th, tz)) : entP L d (6 - k) k acc = entP L d (6 - (k + 1)) ((k + 1 : Nat) : Int) (if th = true then acc ++ [(k : Int)] else acc) := by
  rw [show 6 - k = (6 - (k + 1)) + 1 by omega, entP, ht]
  simp
/-- What names has under way: what was looked at, and its own list. -/
def Nms (w : World) (b rb mb : Nat) (L : Prs) (vr : Value) (zs : List Int) (vz : Value) (acc : List Int) (l : Value) (X : World) : Prop :=
  (Looks X b rb mb L zs vz ∧ Keeps w X b mb vr vz) ∧ Ints X w.heap.size l acc ∧ ∀ k, vz.ownBlock = some k → l.ownBlock ≠ some k
theorem Nms.later {w X X' : World} {b rb mb : Nat} {L : Prs} {vr vz l : Value} {zs acc : List Int} (h : Nms w b rb mb L vr zs vz acc l X) (hb : Below X.heap.size X X') : Nms w b rb mb L vr zs vz acc l X' := ⟨⟨h.1.1.later hb, h.1.2.trans (Keeps.below _ _ _ hb)⟩, h.2.1.later hb, h.2.2⟩
theorem Nms.keeps {w X X' : World} {b rb mb : Nat} {L : Prs} {vr vz vy l : Value} {zs ys acc : List Int} (h : Nms w b rb mb L vr zs vz acc l X) (hbw : b < w.heap.size) (hmb : mb < w.heap.size) (hl : Looks X' b rb mb L ys vy) (hk : Keeps X X' b mb vz vy) : Nms w b rb mb L vr ys vy acc l X' := by
  have off : ∀ k, l.ownBlock = some k → Off X b mb vz k := fun k hq => ⟨(h.2.1.lt k hq).2, by have := (h.2.1.lt k hq).1; omega, by have := (h.2.1.lt k hq).1; omega, fun e => h.2.2 k e hq⟩
  have hi : OwnM X w.heap.size 2 1 l acc.length acc := h.2.1
  exact ⟨⟨hl, h.1.2.trans hk⟩, OwnM.keptB hi (fun k hq => (hk.off (off k hq)).2), fun k hq e => (hk.off (off k e)).1.2.2.2 hq⟩
theorem Nms.app {w X X6 : World} {b rb mb : Nat} {L : Prs} {vr vz : Value} {zs acc : List Int} {key : Int} {ao ao1 : Option Addr} {cp cp1 : Nat} (h : Nms w b rb mb L vr zs vz acc (.slice ao acc.length cp) X) (hbw : b < w.heap.size)
    (O6 : OwnM X6 w.heap.size 2 1 (.slice ao1 (acc.length + 1) cp1) (acc.length + 1) (acc ++ nums (fun p => [key].getD p 0) (1 * 1))) (G6 : (X.alloc (.cells #[.int .i64 key] 2)).grownBy X6 (Value.slice ao acc.length cp).ownBlock)
    (N6 : (Value.slice ao1 (acc.length + 1) cp1).ownBlock = (Value.slice ao acc.length cp).ownBlock ∨ (Value.slice ao1 (acc.length + 1) cp1).ownBlock = some (X.alloc (.cells #[.int .i64 key] 2)).heap.size) :
    Nms w b rb mb L vr zs vz (acc ++ [key]) (.slice ao1 (acc.length + 1) cp1) X6 := by
  have kp : ∀ k, k < X.heap.size → (Value.slice ao acc.length cp).ownBlock ≠ some k → X6.heap[k]? = X.heap[k]? := fun k h1 h2 => (G6.block k (by simp; omega) (fun e => h2 e.symm)).trans (Below.heap_alloc X _ k h1)
  have hsz : X.heap.size ≤ X6.heap.size := Nat.le_trans (by simp) G6.size
  refine ⟨⟨h.1.1.grew (fun k hk => (h.2.1.lt k hk).1) hbw h.2.2 kp, ⟨⟨G6.os.trans h.1.2.1.1, G6.tape.trans h.1.2.1.2.1, G6.output.trans h.1.2.1.2.2⟩, Nat.le_trans h.1.2.2.1 hsz, fun k h1 h2 h3 h4 => (kp k (Nat.lt_of_lt_of_le h1 h.1.2.2.1) (fun e => by have := (h.2.1.lt k e).1; omega)).trans (h.1.2.2.2.1 k h1 h2 h3 h4), h.1.2.2.2.2⟩⟩, ?_, fun k hk e => ?_⟩
  · have e : nums (fun p => [key].getD p 0) (1 * 1) = [key] := rfl
    rw [e] at O6
    unfold Ints
    rw [List.length_append]
    exact O6
  · rcases N6 with p | p
    · exact h.2.2 k hk (by rw [← p]; exact e)
    · rw [p] at e
      have h1 := (h.1.1.2.2.2.1.lt k hk).2
      have := Option.some.inj e
      simp at this
      omega
end Go.Proofs.Ytokaoiiibakkoaa

namespace Go.Proofs.Ytokaoiiibakkoaa
open Go.RowKit

theorem fsF_zero {n : Nat} {F : Nat → Int} (h : fsF n F = 0) : pairsF F n 0 = 0 ∧ wholeB (listOf F n) = true := by
  unfold fsF at h
  by_cases h1 : pairsF F n 0 = 0
  · rw [if_neg (fun q => q h1)] at h
    by_cases h2 : wholeB (listOf F n) = true
    · exact ⟨h1, h2⟩
    · rw [if_neg h2] at h; cases h
  · rw [if_pos h1] at h; exact absurd h h1
end Go.Proofs.Ytokaoiiibakkoaa

namespace Go.Proofs.Ytokaoiiibakkoaa
open Go.RowKit

/-- What is told of an entry of a directory: the node, and what is below it. -/
def nodeX (L : Prs) (rec : Int → List Int) (dir depth i : Int) : List Int :=
  [(lookF L (kE dir i)).2, depth, i, (lookF L (kI (lookF L (kE dir i)).2)).2] ++ (if (lookF L (kI (lookF L (kE dir i)).2)).2 = 1000 then rec (lookF L (kE dir i)).2 else [])
def nodesX (L : Prs) (rec : Int → List Int) (dir depth : Int) : List Int → List Int
  | [] => []
  | i :: t => nodeX L rec dir depth i ++ nodesX L rec dir depth t
def belowF (L : Prs) : Nat → Int → Int → List Int
  | 0, _, _ => []
  | f + 1, dir, depth => nodesX L (fun c => belowF L f c (depth + 1)) dir depth (entP L dir 6 0 [])
theorem nodesX_append (L : Prs) (rec : Int → List Int) (dir depth : Int) : ∀ (xs ys : List Int), nodesX L rec dir depth (xs ++ ys) = nodesX L rec dir depth xs ++ nodesX L rec dir depth ys
  | [], _ => rfl
  | i :: t, ys => by simp only [List.cons_append, nodesX, nodesX_append L rec dir depth t ys, List.append_assoc]
/-- What the names are: those that have an entry. -/
theorem ent_mem (L : Prs) (d : Int) : ∀ (j : Nat) (i : Int) (xs : List Int) (x : Int), x ∈ entP L d j i xs → x ∈ xs ∨ ((lookF L (kE d x)).1 = true ∧ i ≤ x ∧ x < i + (j : Nat))
  | 0, _, _, _, h => Or.inl h
  | j + 1, i, xs, x, h => by
    rw [entP] at h
    rcases ent_mem L d j (i + 1) _ x h with q | ⟨q1, q2, q3⟩
    · split at q
      · rename_i ht
        rcases List.mem_append.1 q with r | r
        · exact Or.inl r
        · rw [List.mem_singleton] at r
          subst r
          exact Or.inr ⟨ht, Int.le_refl _, by omega⟩
      · exact Or.inl q
    · exact Or.inr ⟨q1, by omega, by omega⟩
theorem ent_nodup (L : Prs) (d : Int) : ∀ (j : Nat) (i : Int) (xs : List Int), xs.Nodup → (∀ x ∈ xs, x < i) → (entP L d j i xs).Nodup
  | 0, _, _, h, _ => h
  | j + 1, i, xs, h, hl => by
    rw [entP]
    refine ent_nodup L d j (i + 1) _ ?_ ?_
    · split
      · rw [List.nodup_append]
        refine ⟨h, by simp, fun a ha b hb e => ?_⟩
        rw [List.mem_singleton] at hb
        have := hl a ha
        omega
      · exact h
    · intro x hx
      split at hx
      · rcases List.mem_append.1 hx with q | q
        · have := hl x q; omega
        · rw [List.mem_singleton] at q; omega
      · have := hl x hx; omega
theorem ent_in {L : Prs} {d x : Int} (h : x ∈ entP L d 6 0 []) : (lookF L (kE d x)).1 = true ∧ 0 ≤ x ∧ x ≤ 5 := by
  rcases ent_mem L d 6 0 [] x h with q | ⟨q1, q2, q3⟩
  · cases q
  · exact ⟨q1, q2, by omega⟩
/-- What holds of the entries of a view that hangs together. -/
structure Tree (L : Prs) : Prop where
  ino : ∀ d i, 0 ≤ d ∧ d ≤ 9 → 0 ≤ i ∧ i ≤ 5 → (lookF L (kE d i)).1 = true → 0 ≤ (lookF L (kE d i)).2 ∧ (lookF L (kE d i)).2 ≤ 9
  up : ∀ d i, 0 ≤ d ∧ d ≤ 9 → 0 ≤ i ∧ i ≤ 5 → (lookF L (kE d i)).1 = true → (lookF L (kI (lookF L (kE d i)).2)).2 = 1000 → d < (lookF L (kE d i)).2
  one : ∀ d i i', 0 ≤ d ∧ d ≤ 9 → 0 ≤ i ∧ i ≤ 5 → 0 ≤ i' ∧ i' ≤ 5 → (lookF L (kE d i)).1 = true → (lookF L (kE d i')).1 = true → (lookF L (kI (lookF L (kE d i)).2)).2 = 1000 → (lookF L (kE d i')).2 = (lookF L (kE d i)).2 → i = i'
theorem look_mem {L : Prs} {k : Int} (h : (lookF L k).1 = true) : (k, (lookF L k).2) ∈ L := by
  unfold lookF at h ⊢
  split
  · rename_i e he
    have h1 := List.mem_of_find?_eq_some he
    have h2 := List.find?_some he
    have h3 : e.1 = k := by simpa using h2
    rw [← h3]
    exact h1
  · rename_i he
    rw [he] at h
    cases h
theorem parts_entry {d i : Int} (hd : 0 ≤ d ∧ d ≤ 9) (hi : 0 ≤ i ∧ i ≤ 5) : partK (kE d i) = 2 ∧ partA (kE d i) = d := by
  have hf := kE_ok hd hi
  rcases parts_ways (kE d i) with ⟨h, _⟩ | ⟨h1, _⟩ | ⟨h1, h2, _⟩ | ⟨_, _, _, _, e1, e2, _⟩ | ⟨h1, _⟩
  · exact absurd hf h
  · unfold kE at h1; omega
  · unfold kE at h2; omega
  · exact ⟨e1, by rw [e2]; unfold kE; omega⟩
  · unfold kE at h1; omega
theorem linkN_filter (a : Int) : ∀ L : Prs, linkN L a = (L.filter fun e => partK e.1 == 2 && e.2 == a).length
  | [] => rfl
  | e :: t => by
    have ih := linkN_filter a t
    unfold linkN toL at ih ⊢
    rw [lnkL, List.filter_append, List.length_append, ih]
    by_cases h : partK e.1 = 2
    · rw [if_pos h]
      by_cases h2 : e.2 = a
      · simp [h, h2]; omega
      · simp [h2]
    · rw [if_neg h]
      simp [h]
theorem two_mem {α : Type} {l : List α} {a b : α} (ha : a ∈ l) (hb : b ∈ l) (h : a ≠ b) : 2 ≤ l.length := by
  match l, ha, hb with
  | [], q, _ => cases q
  | [x], q, r =>
    rw [List.mem_singleton] at q r
    exact absurd (q.trans r.symm) h
  | _ :: _ :: _, _, _ => simp
theorem all_of {L : Prs} {p : Int × Int → Bool} (h : (L.all fun e => !(p e)) = true) {e : Int × Int} (he : e ∈ L) : p e = false := by
  have := List.all_eq_true.1 h e he
  simpa using this
theorem whole_tree {L : Prs} (h : wholeB L = true) : Tree L := by
  unfold wholeB at h
  rw [Bool.and_eq_true, Bool.and_eq_true, Bool.and_eq_true, Bool.and_eq_true] at h
  obtain ⟨_, _, _, hA, hN⟩ := h
  have ino : ∀ d i, 0 ≤ d ∧ d ≤ 9 → 0 ≤ i ∧ i ≤ 5 → (lookF L (kE d i)).1 = true → 0 ≤ (lookF L (kE d i)).2 ∧ (lookF L (kE d i)).2 ≤ 9 := fun d i hd hi ht => by
    have := all_of hN (look_mem ht)
    unfold noInode at this
    rw [(parts_entry hd hi).1] at this
    simpa using this
  have ok : ∀ d i, 0 ≤ d ∧ d ≤ 9 → 0 ≤ i ∧ i ≤ 5 → (lookF L (kE d i)).1 = true → inodeB L (lookF L 0).2 (lookF L (kE d i)).2 = true := fun d i hd hi ht => by
    have h1 := ino d i hd hi ht
    have := List.all_eq_true.1 hA ((lookF L (kE d i)).2.toNat) (List.mem_range.2 (by omega))
    rwa [Int.toNat_of_nonneg h1.1] at this
  have has : ∀ c, (lookF L (kI c)).2 = 1000 → (lookF L (kI c)).1 = true := fun c h => by
    cases q : (lookF L (kI c)).1 with
    | true => rfl
    | false => rw [lookF_zero q] at h; omega
  have up : ∀ d i, 0 ≤ d ∧ d ≤ 9 → 0 ≤ i ∧ i ≤ 5 → (lookF L (kE d i)).1 = true → (lookF L (kI (lookF L (kE d i)).2)).2 = 1000 → d < (lookF L (kE d i)).2 := fun d i hd hi ht hz => by
    have := ok d i hd hi ht
    unfold inodeB inodeV at this
    rw [has _ hz, hz] at this
    rw [Bool.and_eq_true, Bool.and_eq_true, Bool.and_eq_true] at this
    have hb := all_of this.2.2.2 (look_mem ht)
    unfold badE at hb
    simp only [(parts_entry hd hi).1, (parts_entry hd hi).2, dirV] at hb
    simp at hb
    exact Int.lt_of_not_ge fun q => by have := hb.2; omega
  refine ⟨ino, up, fun d i i' hd hi hi' ht ht' hz he => ?_⟩
  apply Classical.byContradiction
  intro hne
  have hc := up d i hd hi ht hz
  have := ok d i hd hi ht
  unfold inodeB inodeV at this
  rw [has _ hz, hz] at this
  rw [Bool.and_eq_true, Bool.and_eq_true] at this
  have h1 := this.2.1
  have hl : ((linkN L (lookF L (kE d i)).2 : Nat) : Int) = 1 := by
    rw [beq_eq_false_iff_ne.2 (show (lookF L (kE d i)).2 ≠ 0 by omega), bne_iff_ne.2 (show (lookF L (kE d i)).2 ≠ 0 by omega)] at h1
    simpa [dirV] using h1
  have h2 : 2 ≤ linkN L (lookF L (kE d i)).2 := by
    rw [linkN_filter]
    refine two_mem (a := (kE d i, (lookF L (kE d i)).2)) (b := (kE d i', (lookF L (kE d i')).2)) (List.mem_filter.2 ⟨look_mem ht, ?_⟩) (List.mem_filter.2 ⟨look_mem ht', ?_⟩) (fun e => ?_)
    · simp [(parts_entry hd hi).1]
    · simp [(parts_entry hd hi').1, he]
    · have := congrArg Prod.fst e
      simp only [kE] at this
      omega
  omega
/-- A sum over directories above one. -/
def sumP (f : Int → Nat) : List Int → Nat
  | [] => 0
  | c :: t => f c + sumP f t
theorem sumP_erase (f : Int → Nat) (x : Int) : ∀ S : List Int, sumP f S ≤ f x + sumP f (S.erase x)
  | [] => Nat.zero_le _
  | c :: t => by
    rw [List.erase_cons]
    split
    · rename_i h
      have : c = x := by simpa using h
      rw [sumP, this]
      exact Nat.le_refl _
    · have := sumP_erase f x t
      simp only [sumP]
      omega
def pw (c : Int) : Nat := 6 * 2 ^ (9 - c).toNat
theorem sum_pw : ∀ (k : Nat) (d : Int) (S : List Int), (9 - d).toNat = k → d ≤ 9 → S.Nodup → (∀ c ∈ S, d < c ∧ c ≤ 9) → sumP pw S + 6 ≤ 6 * 2 ^ k
  | 0, d, S, hk, _, _, hS => by
    have : S = [] := List.eq_nil_iff_forall_not_mem.2 fun c hc => by have := hS c hc; omega
    subst this
    exact Nat.le_refl _
  | k + 1, d, S, hk, hd, hn, hS => by
    have h1 := sum_pw k (d + 1) (S.erase (d + 1)) (by omega) (by omega) (hn.erase _) fun c hc => by
      have h2 := hS c (List.mem_of_mem_erase hc)
      have : c ≠ d + 1 := fun e => by rw [e] at hc; exact (List.Nodup.not_mem_erase hn) hc
      omega
    have h2 := sumP_erase pw (d + 1) S
    have h3 : pw (d + 1) = 6 * 2 ^ k := by unfold pw; rw [show (9 - (d + 1)).toNat = k by omega]
    rw [Nat.pow_succ]
    omega
/-- The directories among the entries of some names. -/
def dirsX (L : Prs) (dir : Int) : List Int → List Int
  | [] => []
  | i :: t => (if (lookF L (kI (lookF L (kE dir i)).2)).2 = 1000 then [(lookF L (kE dir i)).2] else []) ++ dirsX L dir t
theorem dirsX_mem {L : Prs} {dir c : Int} : ∀ {xs : List Int}, c ∈ dirsX L dir xs → ∃ i ∈ xs, (lookF L (kE dir i)).2 = c ∧ (lookF L (kI c)).2 = 1000
  | [], h => by cases h
  | i :: t, h => by
    rw [dirsX] at h
    rcases List.mem_append.1 h with q | q
    · split at q
      · rename_i hz
        rw [List.mem_singleton] at q
        exact ⟨i, by simp, q.symm, by rw [q]; exact hz⟩
      · cases q
    · obtain ⟨j, hj, e1, e2⟩ := dirsX_mem q
      exact ⟨j, List.mem_cons_of_mem _ hj, e1, e2⟩
theorem dirsX_nodup {L : Prs} (hT : Tree L) {dir : Int} (hd : 0 ≤ dir ∧ dir ≤ 9) : ∀ {xs : List Int}, xs.Nodup → (∀ x ∈ xs, (lookF L (kE dir x)).1 = true ∧ 0 ≤ x ∧ x ≤ 5) → (dirsX L dir xs).Nodup
  | [], _, _ => List.nodup_nil
  | i :: t, hn, hx => by
    rw [List.nodup_cons] at hn
    have ih := dirsX_nodup hT hd hn.2 fun x hxt => hx x (List.mem_cons_of_mem _ hxt)
    rw [dirsX]
    split
    · rename_i hz
      rw [List.singleton_append, List.nodup_cons]
      refine ⟨fun hm => ?_, ih⟩
      obtain ⟨j, hj, e1, e2⟩ := dirsX_mem hm
      have hi := hx i (by simp)
      have hjx := hx j (List.mem_cons_of_mem _ hj)
      have := hT.one dir i j hd hi.2 hjx.2 hi.1 hjx.1 hz e1
      rw [this] at hn
      exact hn.1 hj
    · exact ih
theorem nodesX_len {L : Prs} {rec : Int → List Int} {dir depth : Int} (hr : ∀ c, c ∈ dirsX L dir (entP L dir 6 0 []) → (rec c).length ≤ 4 * pw c) : ∀ xs : List Int, (∀ c ∈ dirsX L dir xs, c ∈ dirsX L dir (entP L dir 6 0 [])) → (nodesX L rec dir depth xs).length ≤ 4 * (xs.length + sumP pw (dirsX L dir xs))
  | [], _ => Nat.le_refl _
  | i :: t, h => by
    have ih := nodesX_len (depth := depth) hr t fun c hc => h c (by rw [dirsX]; exact List.mem_append_right _ hc)
    rw [nodesX, List.length_append]
    unfold nodeX
    rw [dirsX] at h ⊢
    split
    · rename_i hz
      rw [if_pos hz] at h
      have := hr _ (h _ (List.mem_append_left _ (List.mem_singleton.2 rfl)))
      simp only [List.length_append, List.length_cons, List.length_nil, List.singleton_append, sumP]
      omega
    · simp only [List.length_append, List.length_cons, List.length_nil, List.nil_append]
      omega
theorem below_len {L : Prs} (hT : Tree L) : ∀ (f : Nat) (dir depth : Int), 0 ≤ dir ∧ dir ≤ 9 → (belowF L f dir depth).length ≤ 4 * pw dir
  | 0, _, _, _ => Nat.zero_le _
  | f + 1, dir, depth, hd => by
    have hin : ∀ x ∈ entP L dir 6 0 [], (lookF L (kE dir x)).1 = true ∧ 0 ≤ x ∧ x ≤ 5 := fun x hx => ent_in hx
    have hup : ∀ c ∈ dirsX L dir (entP L dir 6 0 []), dir < c ∧ c ≤ 9 := fun c hc => by
      obtain ⟨i, hi, e1, e2⟩ := dirsX_mem hc
      have h1 := hin i hi
      rw [← e1] at e2 ⊢
      exact ⟨hT.up dir i hd h1.2 h1.1 e2, (hT.ino dir i hd h1.2 h1.1).2⟩
    have h1 := nodesX_len (L := L) (rec := fun c => belowF L f c (depth + 1)) (dir := dir) (depth := depth) (fun c hc => below_len hT f c (depth + 1) (by have := hup c hc; omega)) (entP L dir 6 0 []) (fun c hc => hc)
    have h2 := sum_pw (9 - dir).toNat dir _ rfl hd.2 (dirsX_nodup hT hd (ent_nodup L dir 6 0 [] List.nodup_nil (fun x hx => by cases hx)) hin) hup
    have h3 := ent_len L dir 6 0 []
    rw [belowF]
    unfold pw
    simp only [List.length_nil] at h3
    omega
theorem pw_le {d : Int} (h : 0 ≤ d) : pw d ≤ 3072 := by
  unfold pw
  have h9 : (9 - d).toNat ≤ 9 := by omega
  have := Nat.pow_le_pow_right (show 0 < 2 by decide) h9
  omega
theorem node_four {L : Prs} {rec : Int → List Int} {dir depth : Int} (hr : ∀ c, ∃ q, (rec c).length = q * 4) (i : Int) : ∃ q, (nodeX L rec dir depth i).length = q * 4 := by
  unfold nodeX
  split
  · obtain ⟨q, hq⟩ := hr (lookF L (kE dir i)).2
    exact ⟨q + 1, by simp [hq]; omega⟩
  · exact ⟨1, by simp⟩
theorem nodes_four {L : Prs} {rec : Int → List Int} {dir depth : Int} (hr : ∀ c, ∃ q, (rec c).length = q * 4) : ∀ xs : List Int, ∃ q, (nodesX L rec dir depth xs).length = q * 4
  | [] => ⟨0, rfl⟩
  | i :: t => by
    obtain ⟨a, ha⟩ := node_four (L := L) (dir := dir) (depth := depth) hr i
    obtain ⟨b, hb⟩ := nodes_four hr t
    exact ⟨a + b, by rw [nodesX, List.length_append, ha, hb]; omega⟩
theorem below_four (L : Prs) : ∀ (f : Nat) (dir depth : Int), ∃ q, (belowF L f dir depth).length = q * 4
  | 0, _, _ => ⟨0, rfl⟩
  | f + 1, dir, depth => by rw [belowF]; exact nodes_four (fun c => below_four L f c (depth + 1)) _
end Go.Proofs.Ytokaoiiibakkoaa

namespace Go.Proofs.Ytokaoiiibakkoaa
open Go.RowKit

theorem infoz_TN : (Try.prog.info? 85).map (fun i => (i.zero, i.size, i.bytes)) = some (some (.agg #[.int .i64 0, .int .i64 0, .int .i64 0, .int .i64 0]), 4, 32) := by kernel_rfl
theorem nums_four (x0 x1 x2 x3 : Int) : nums (fun p => [x0, x1, x2, x3].getD p 0) (1 * 4) = [x0, x1, x2, x3] := rfl
theorem nums_self {l : List Int} {N : Nat} (h : l.length = N) : nums (fun p => l.getD p 0) N = l := by
  subst h
  unfold nums
  apply List.ext_getElem
  · simp
  · intro i h1 h2
    simp only [List.getElem_map, List.getElem_range]
    rw [List.getD_eq_getElem?_getD, List.getElem?_eq_getElem h2]
    rfl
theorem ent_prefix (L : Prs) (d : Int) : ∀ (j : Nat) (i : Int) (xs : List Int), ∃ ys, entP L d j i xs = xs ++ ys
  | 0, _, xs => ⟨[], by simp [entP]⟩
  | j + 1, i, xs => by
    rw [entP]
    split
    · obtain ⟨ys, h⟩ := ent_prefix L d j (i + 1) (xs ++ [i])
      exact ⟨[i] ++ ys, by rw [h, List.append_assoc]⟩
    · exact ent_prefix L d j (i + 1) xs
/-- Of a part of the names: no more than of all. -/
theorem part_len {L : Prs} (hT : Tree L) {f : Nat} {dir depth : Int} (hd : 0 ≤ dir ∧ dir ≤ 9) {j : Nat} {i : Int} {nm : List Int} (h : entP L dir 6 0 [] = entP L dir j i nm) : (nodesX L (fun c => belowF L f c (depth + 1)) dir depth nm).length ≤ 12288 := by
  have h1 := below_len hT (f + 1) dir depth hd
  rw [belowF, h] at h1
  obtain ⟨ys, e⟩ := ent_prefix L dir j i nm
  rw [e, nodesX_append, List.length_append] at h1
  have := pw_le hd.1
  omega
/-- The nodes so far, in a list of the model's own. -/
def BlE (w : World) (acc : List Int) (n : Nat) (v : Value) (X : World) : Prop := OwnM X w.heap.size 85 4 v n acc ∧ Below w.heap.size w X
theorem BlE.app {w X Y w6 : World} {acc l : List Int} {n m : Nat} {ao ao1 : Option Addr} {cp cp1 : Nat} (h : BlE w acc n (.slice ao n cp) X) (hY : Below X.heap.size X Y) (O6 : OwnM w6 w.heap.size 85 4 (.slice ao1 (n + m) cp1) (n + m) (acc ++ l)) (G6 : Y.grownBy w6 (Value.slice ao n cp).ownBlock) : BlE w (acc ++ l) (n + m) (.slice ao1 (n + m) cp1) w6 := by
  have hw := h.2.trans (hY.mono h.2.size)
  exact ⟨O6, hw.trans ⟨G6.os, G6.tape, G6.output, G6.size, fun k hk => G6.block k (Nat.lt_of_lt_of_le hk hw.size) (fun e => by have := (OwnM.block h.1 _ e.symm).1; omega)⟩⟩
set_option maxRecDepth 100000 in
set_option maxHeartbeats 4000000 in
theorem l14Below_is (L : Prs) (hT : Tree L) (hn : L.length ≤ 1000) : ∀ (f : Nat) (dir depth : Int) (v : Value) (B : Nat) (w : World), Row w B 2 L.length (rowL L) v → 0 ≤ dir ∧ dir ≤ 9 → (9 - dir).toNat < f → 0 ≤ depth ∧ depth ≤ dir + 1 →
    Calls Try.prog 32 #[v, .int .i64 dir, .int .i64 depth] w fun e w' => ∃ u n, e = .returned u ∧ OwnM w' w.heap.size 85 4 u n (belowF L f dir depth) ∧ Below w.heap.size w w'
  | 0, _, _, _, _, _, _, _, h, _ => absurd h (Nat.not_lt_zero _)
  | f + 1, dir, depth, v, B, w, h, hd, hf, hdep => by
    obtain ⟨ao0, cp0, rfl⟩ := h.form
    have H : Hid (Row w B 2 L.length (rowL L) (.slice ao0 L.length cp0)) := h
    have HIH : Hid (∀ (dir depth : Int) (v : Value) (B : Nat) (w : World), Row w B 2 L.length (rowL L) v → 0 ≤ dir ∧ dir ≤ 9 → (9 - dir).toNat < f → 0 ≤ depth ∧ depth ≤ dir + 1 →
      Calls Try.prog 32 #[v, .int .i64 dir, .int .i64 depth] w fun e w' => ∃ u n, e = .returned u ∧ OwnM w' w.heap.size 85 4 u n (belowF L f dir depth) ∧ Below w.heap.size w w') := fun d1 d2 v1 B1 w1 a1 a2 a3 a4 => l14Below_is L hT hn f d1 d2 v1 B1 w1 a1 a2 a3 a4
    obtain ⟨i0, hi, iz0, iz1, iz2⟩ := info_parts infoz_TN
    have HP : Hid ((0 ≤ dir ∧ dir ≤ 9) ∧ (9 - dir).toNat < f + 1 ∧ (0 ≤ depth ∧ depth ≤ dir + 1)) := ⟨hd, hf, hdep⟩
    have hdep1 : 0 ≤ depth ∧ depth ≤ 10 := by omega
    have dd : decide (depth ≤ 10) = true := decide_eq_true (by omega)
    have HBF : Hid (belowF L (f + 1) dir depth = nodesX L (fun c => belowF L f c (depth + 1)) dir depth (entP L dir 6 0 [])) := rfl
    clear h hd hf hdep
    go_enter Try.func32, Try.ntmps32
    go_wp2
    go_loopw [7, 8] (fun out i wr => ∃ (k : Nat) (ao : Option Addr) (n cp : Nat) (nm : List Int), k ≤ 6 ∧ i = .int .i64 k ∧ out = .slice ao n cp ∧ n ≤ 3072 ∧ Hid (entP L dir 6 0 [] = entP L dir (6 - k) k nm ∧ BlE w (nodesX L (fun c => belowF L f c (depth + 1)) dir depth nm) n (.slice ao n cp) wr)) (fun _ i _ => 6 - (intOf i).toNat)
    case atStart => exact ⟨0, _, 0, _, [], by omega, rfl, rfl, by omega, rfl, OwnM.lit0 _ _ _ _ rfl, below_alloc _ _⟩
    case round =>
      obtain ⟨k, ao, n, cp, nm, hk, rfl, rfl, hnn, HS⟩ := hrel
      by_cases hlt : k < 6
      case neg =>
        obtain rfl : k = 6 := by omega
        have HE : Hid (BlE w (belowF L (f + 1) dir depth) n (.slice ao n cp) wr) := by
          unfold Hid
          rw [HBF.out, HS.out.1]
          exact HS.out.2
        clear HS HIH
        have dk : decide (((6 : Nat) : Int) ≤ 5) = false := by decide
        go_wp2
        go_ret
        exact ⟨_, n, rfl, HE.out.1, HE.out.2⟩
      have dk : decide ((k : Int) ≤ 5) = true := decide_eq_true (by omega)
      have HRW : Hid (Row wr B 2 L.length (rowL L) (.slice ao0 L.length cp0)) := H.out.later HS.out.2.2
      obtain ⟨t, htq⟩ : ∃ t, lookF L (kE dir k) = t := ⟨_, rfl⟩
      obtain ⟨th, c⟩ := t
      have HT : Hid (lookF L (kE dir k) = (th, c)) := htq
      have HE : Hid (entP L dir 6 0 [] = entP L dir (6 - (k + 1)) ((k + 1 : Nat) : Int) (if th = true then nm ++ [(k : Int)] else nm)) := HS.out.1.trans (ent_step hlt htq)
      go_wp2_with fail
      refine (ofE_is dir k HP.out.1 (by omega) _).mono ?_
      rintro e w9 ⟨rfl, hw9⟩
      obtain rfl := hw9.symm
      go_wp2_with fail
      refine (l11Value_any L _ B (kE dir k) _ HRW.out (by omega)).mono ?_
      rintro e w9 ⟨rfl, hw9⟩
      obtain rfl := hw9.symm
      rw [HT.out]
      cases th with
      | false =>
        clear htq HIH
        go_wp2
        go_roundw
        case rel => exact ⟨k + 1, ao, n, cp, nm, by omega, by go_num, rfl, hnn, HE.out, HS.out.2⟩
        case measure => simp [intOf]; omega
      | true =>
        have hc := hT.ino dir k HP.out.1 (by omega) (by rw [htq])
        have hup := hT.up dir k HP.out.1 (by omega) (by rw [htq])
        rw [htq] at hc hup
        simp only at hc hup
        obtain ⟨t2, ht2⟩ : ∃ t, lookF L (kI c) = t := ⟨_, rfl⟩
        obtain ⟨uh, cv⟩ := t2
        have HT2 : Hid (lookF L (kI c) = (uh, cv)) := ht2
        rw [ht2] at hup
        simp only at hup
        have HNX : Hid (nodesX L (fun c => belowF L f c (depth + 1)) dir depth (nm ++ [(k : Int)]) = nodesX L (fun c => belowF L f c (depth + 1)) dir depth nm ++ ([c, depth, (k : Int), cv] ++ (if cv = 1000 then belowF L f c (depth + 1) else []))) := by
          unfold Hid
          rw [nodesX_append, nodesX, nodesX, List.append_nil]
          unfold nodeX
          rw [htq]
          simp only
          rw [ht2]
        have hpl := part_len hT (f := f) (depth := depth) HP.out.1 HE.out
        rw [if_pos rfl, HNX.out] at hpl
        have hol := OwnM.len HS.out.2.1
        rw [List.length_append, hol] at hpl
        have HE2 : Hid (entP L dir 6 0 [] = entP L dir (6 - (k + 1)) ((k + 1 : Nat) : Int) (nm ++ [(k : Int)])) := HE.out
        clear htq ht2 HE
        go_wp2_with fail
        refine (ofI_is c hc _).mono ?_
        rintro e w9 ⟨rfl, hw9⟩
        obtain rfl := hw9.symm
        go_wp2_with fail
        refine (l11Value_any L _ B (kI c) _ HRW.out (by omega)).mono ?_
        rintro e w9 ⟨rfl, hw9⟩
        obtain rfl := hw9.symm
        rw [HT2.out]
        generalize nodesX L (fun c => belowF L f c (depth + 1)) dir depth nm = acc at HS HNX hol
        have HO : Hid (OwnM (wr.alloc (.cells #[.int .i64 c, .int .i64 depth, .int .i64 k, .int .i64 cv] 85)) w.heap.size 85 4 (.slice ao n cp) n acc) := OwnM.later HS.out.2.1 (below_alloc _ _)
        have hws : w.heap.size ≤ wr.heap.size := HS.out.2.2.size
        by_cases hcv : cv = 1000
        · have dcv : (cv == 1000) = true := beq_iff_eq.2 hcv
          have hdc := hup hcv
          rw [if_pos hcv] at hpl
          have HNX2 : Hid (nodesX L (fun c => belowF L f c (depth + 1)) dir depth (nm ++ [(k : Int)]) = (acc ++ [c, depth, (k : Int), cv]) ++ belowF L f c (depth + 1)) := by
            unfold Hid
            rw [HNX.out, if_pos hcv, List.append_assoc]
          clear hup hcv HNX
          go_wp2_with (at_builtin; refine wpList_app 85 i0 (.agg #[.int .i64 0, .int .i64 0, .int .i64 0, .int .i64 0]) 4 32 rfl _ _ 29 rfl Try.underlying29 hi iz0 iz1 iz2 rfl (by omega) (by omega) _ w.heap.size n acc (.slice ao n cp) rfl HO.out 0 1 (fun p => [c, depth, (k : Int), cv].getD p 0) (.slice (some ⟨wr.heap.size, 0, none⟩) 1 1) rfl (row_lit4 wr c depth k cv _) (by omega) (by simp; omega) ?_; intro ao1 cp1 w1 O2 G2)
          rw [nums_four] at O2
          have HS1 : Hid (BlE w (acc ++ [c, depth, (k : Int), cv]) (n + 1) (.slice ao1 (n + 1) cp1) w1) := HS.out.2.app (below_alloc _ _) O2 G2
          clear O2 G2 HO
          have hdep2 : 0 ≤ depth + 1 ∧ depth + 1 ≤ 11 := by omega
          go_wp2_with fail
          refine (HIH.out c (depth + 1) _ B _ (H.out.later HS1.out.2) hc (by have := HP.out; omega) (by have := HP.out; omega)).mono ?_
          rintro e w2 ⟨u, m, rfl, hu, q2⟩
          obtain ⟨uo, uc, rfl⟩ := OwnM.form hu
          have hum := OwnM.len hu
          have HU : Hid (Row w2 w1.heap.size 4 m (fun p => (belowF L f c (depth + 1)).getD p 0) (.slice uo m uc)) := (OwnM.rowL hu).1
          have HO2 : Hid (OwnM w2 w.heap.size 85 4 (.slice ao1 (n + 1) cp1) (n + 1) (acc ++ [c, depth, (k : Int), cv])) := OwnM.later HS1.out.1 q2
          have HQ2 : Hid (Below w1.heap.size w1 w2) := q2
          have hws2 : w.heap.size ≤ w2.heap.size := Nat.le_trans HS1.out.2.size q2.size
          rw [List.length_append, hum] at hpl
          simp only [List.length_cons, List.length_nil] at hpl
          have hself := nums_self (l := belowF L f c (depth + 1)) hum
          clear hu q2
          go_wp2_with (at_builtin; refine wpList_app 85 i0 (.agg #[.int .i64 0, .int .i64 0, .int .i64 0, .int .i64 0]) 4 32 rfl _ _ 29 rfl Try.underlying29 hi iz0 iz1 iz2 rfl (by omega) (by omega) _ w.heap.size (n + 1) (acc ++ [c, depth, (k : Int), cv]) (.slice ao1 (n + 1) cp1) rfl HO2.out w1.heap.size m (fun p => (belowF L f c (depth + 1)).getD p 0) (.slice uo m uc) rfl HU.out (by omega) (by omega) ?_; intro ao3 cp3 w3 O3 G3)
          rw [hself] at O3
          have HS3 : Hid (BlE w (nodesX L (fun c => belowF L f c (depth + 1)) dir depth (nm ++ [(k : Int)])) (n + 1 + m) (.slice ao3 (n + 1 + m) cp3) w3) := by
            unfold Hid
            rw [HNX2.out]
            exact HS1.out.app HQ2.out O3 G3
          clear O3 G3 HO2 HU HQ2 hself
          go_wp2
          go_roundw
          case rel => exact ⟨k + 1, ao3, n + 1 + m, cp3, nm ++ [(k : Int)], by omega, by go_num, rfl, by omega, HE2.out, HS3.out⟩
          case measure => simp [intOf]; omega
        · have dcv : (cv == 1000) = false := beq_eq_false_iff_ne.2 hcv
          rw [if_neg hcv] at hpl
          simp only [List.append_nil, List.length_cons, List.length_nil] at hpl
          have HNX2 : Hid (nodesX L (fun c => belowF L f c (depth + 1)) dir depth (nm ++ [(k : Int)]) = acc ++ [c, depth, (k : Int), cv]) := by
            unfold Hid
            rw [HNX.out, if_neg hcv, List.append_nil]
          clear hup hcv HNX HIH
          go_wp2_with (at_builtin; refine wpList_app 85 i0 (.agg #[.int .i64 0, .int .i64 0, .int .i64 0, .int .i64 0]) 4 32 rfl _ _ 29 rfl Try.underlying29 hi iz0 iz1 iz2 rfl (by omega) (by omega) _ w.heap.size n acc (.slice ao n cp) rfl HO.out 0 1 (fun p => [c, depth, (k : Int), cv].getD p 0) (.slice (some ⟨wr.heap.size, 0, none⟩) 1 1) rfl (row_lit4 wr c depth k cv _) (by omega) (by simp; omega) ?_; intro ao1 cp1 w1 O2 G2)
          rw [nums_four] at O2
          have HS1 : Hid (BlE w (nodesX L (fun c => belowF L f c (depth + 1)) dir depth (nm ++ [(k : Int)])) (n + 1) (.slice ao1 (n + 1) cp1) w1) := by
            unfold Hid
            rw [HNX2.out]
            exact HS.out.2.app (below_alloc _ _) O2 G2
          clear O2 G2 HO
          go_wp2
          go_roundw
          case rel => exact ⟨k + 1, ao1, n + 1, cp1, nm ++ [(k : Int)], by omega, by go_num, rfl, by omega, HE2.out, HS1.out⟩
          case measure => simp [intOf]; omega
end Go.Proofs.Ytokaoiiibakkoaa

namespace Go.Proofs.Ytokaoiiibakkoaa
open Go.RowKit

def minC (ch : Int) : Int := if ch < 9 then ch else 9
end Go.Proofs.Ytokaoiiibakkoaa

namespace Go.Proofs.Ytokaoiiibakkoaa
open Go.RowKit

theorem minC_in {a : Int} (h : 0 ≤ a) : 0 ≤ minC a ∧ minC a ≤ 9 := by unfold minC; split <;> omega
end Go.Proofs.Ytokaoiiibakkoaa

namespace Go.Proofs.Ytokaoiiibakkoaa
open Go.RowKit

theorem run_min9 (a : Int) (w : World) : (Builtin.min_ #[2, 2] 2 #[.int .i64 a, .int .i64 9]).run Try.prog w = .ok (.int .i64 (minC a)) w := by
  have e : (if (9 : Int) < a then (9 : Int) else a) = minC a := by unfold minC; split <;> split <;> omega
  rw [← e]
  rfl
end Go.Proofs.Ytokaoiiibakkoaa

namespace Go.Proofs.Ytokaoiiibakkoaa
open Go.RowKit

abbrev chO (c cv : Int) : Obj := .cells #[.int .i64 c, .int .i64 cv] 96
theorem Looks.off2 {w : World} {b rb mb : Nat} {L : Prs} {xs : List Int} {vr : Value} (h : Looks w b rb mb L xs vr) {k : Nat} {X : World} (hk : w.heap.size ≤ k) (hX : k < X.heap.size) : Off X b mb vr k := by
  have h1 := h.1.lt
  have h2 := h.2.2.1.lt
  exact ⟨hX, by omega, by omega, fun e => by have := (h.2.2.2.1.lt _ e).2; omega⟩
/-- Only a block of the caller's own has turned. -/
theorem Looks.offs {w w' : World} {b rb mb : Nat} {L : Prs} {xs : List Int} {vr : Value} {g : Nat} (h : Looks w b rb mb L xs vr) (ho : Off w b mb vr g) (hk : ∀ k, k ≠ g → w'.heap[k]? = w.heap[k]?) (hv : ¬ g < mb := by omega) : Looks w' b rb mb L xs vr := by
  have hi : OwnM w (b + 1) 2 1 vr xs.length xs := h.2.2.2.1
  exact ⟨h.1.kept (hk b (fun e => ho.2.1 e.symm)), h.2.1.kept (fun k _ hm => hk k (fun e => hv (by omega))) h.2.2.2.2.1, h.2.2.1.kept (hk mb (fun e => ho.2.2.1 e.symm)), OwnM.keptB hi (fun k hq => hk k (fun e => ho.2.2.2 (by rw [← e]; exact hq))), h.2.2.2.2⟩
theorem Keeps.offs {w w' w'' : World} {b mb : Nat} {vr vr' : Value} {g : Nat} (h : Keeps w w' b mb vr vr') (hs : w'.heap.size = w''.heap.size) (hk : ∀ k, k ≠ g → w''.heap[k]? = w'.heap[k]?) (ho : w''.os = w'.os ∧ w''.tape = w'.tape ∧ w''.output = w'.output) (hg : w.heap.size ≤ g) : Keeps w w'' b mb vr vr' :=
  ⟨⟨ho.1.trans h.1.1, ho.2.1.trans h.1.2.1, ho.2.2.trans h.1.2.2⟩, by rw [← hs]; exact h.2.1, fun k hk1 h1 h2 h3 => (hk k (by omega)).trans (h.2.2.1 k hk1 h1 h2 h3), h.2.2.2⟩
abbrev sightO (s : Bool) (z : Int) : Obj := .cells #[.bool s, .int .i64 z] 78
set_option maxRecDepth 100000 in
set_option maxHeartbeats 4000000 in
theorem lookChild_is (L : Prs) (b rb mb : Nat) (xs : List Int) (vr : Value) (s : Bool) (ch : Int) (w : World) (h : Looks w b rb mb L xs vr) (hrs : Rises L) (hn : L.length ≤ 1000) (hch : 0 ≤ ch) (hx : xs.length ≤ 1000) (c cv : Int) (hc : minC ch = c) (hcv : (lookF L (kI c)).2 = cv) :
    Calls Try.prog 56 #[.pointer (some ⟨b, 0, none⟩), .agg #[.bool s, .int .i64 ch]] w fun e w' => e = .returned (.agg #[.int .i64 c, .int .i64 cv]) ∧ ∃ vr', Looks w' b rb mb L (addR xs (kI c)) vr' ∧ Keeps w w' b mb vr vr' := by
  have hmb : mb < w.heap.size := h.2.2.1.lt
  have HC : Hid (minC ch = c ∧ (lookF L (kI c)).2 = cv ∧ (0 ≤ c ∧ c ≤ 9) ∧ Rises L) := ⟨hc, hcv, hc ▸ minC_in hch, hrs⟩
  have HB : Hid (Below w.heap.size w ((w.alloc (sightO s ch)).alloc (chO 0 0))) := (below_alloc _ _).alloc (by simp) _
  have HL : Hid (Looks ((w.alloc (sightO s ch)).alloc (chO 0 0)) b rb mb L xs vr ∧ Keeps w ((w.alloc (sightO s ch)).alloc (chO 0 0)) b mb vr vr) := ⟨(h.alloc _).alloc _, Keeps.below _ _ _ HB.out⟩
  have HO : Hid (Off ((w.alloc (sightO s ch)).alloc (chO 0 0)) b mb vr (w.heap.size + 1)) := h.off2 (Nat.le_succ _) (by simp)
  have HR : Hid (Blk2 ((w.alloc (sightO s ch)).alloc (chO 0 0)) (w.heap.size + 1) (.int .i64 0) (.int .i64 0)) := by
    have q := Blk2.new (w.alloc (sightO s ch)) (.int .i64 0) (.int .i64 0) 96
    rwa [World.size_alloc] at q
  have fs := fun h v w => field_sight1 h v w
  have hmin := fun w => run_min9 ch w
  rw [hc] at hmin
  clear h hrs hch hc hcv
  go_enter Try.func56, Try.ntmps56
  go_wp2_with fail
  refine (inodeKey_is c HC.out.2.2.1 _).mono ?_
  rintro e w1 ⟨rfl, q1⟩
  have H1 : Hid ((Looks w1 b rb mb L xs vr ∧ Keeps w w1 b mb vr vr) ∧ Off w1 b mb vr (w.heap.size + 1) ∧ Blk2 w1 (w.heap.size + 1) (.int .i64 0) (.int .i64 0)) := ⟨⟨HL.out.1.later q1, HL.out.2.trans (Keeps.below _ _ _ q1)⟩, ((Keeps.below b mb vr q1).off HO.out).1, HR.out.later q1⟩
  clear q1 HL HO HR
  go_wp2_with fail
  refine (look_is L b rb mb xs vr (kI c) _ H1.out.1.1 HC.out.2.2.2 hn (by have := HC.out.2.2.1; unfold kI; omega) hx).mono ?_
  rintro e w2 ⟨rfl, vr2, l2, k2⟩
  have H2 : Hid ((Looks w2 b rb mb L (addR xs (kI c)) vr2 ∧ Keeps w w2 b mb vr vr2) ∧ Off w2 b mb vr2 (w.heap.size + 1) ∧ Blk2 w2 (w.heap.size + 1) (.int .i64 0) (.int .i64 0)) := ⟨⟨l2, H1.out.1.2.trans k2⟩, (k2.off H1.out.2.1).1, H1.out.2.2.kept (k2.off H1.out.2.1).2⟩
  clear l2 k2 H1
  rw [HC.out.2.1]
  obtain ⟨⟨x0, x1⟩, y0, y1⟩ := H2.out.2.2
  have HP : Hid (_ ∧ _) := (Blk2.put H2.out.2.2 (.int .i64 c) (.int .i64 cv)).1
  go_wp2
  refine bodyPost_ret (v := .agg #[.int .i64 c, .int .i64 cv]) (by simp [results, Try.results56, go_sem, HP.out.1, HP.out.2]) rfl ⟨rfl, vr2, ?_, ?_⟩
  · exact H2.out.1.1.offs (H2.out.2.1) (fun k hk => (Below.heap_setCell _ _ _ _ (by simpa using hk)).trans (Below.heap_setCell _ _ _ _ (by simpa using hk)))
  · exact H2.out.1.2.offs (by simp) (fun k hk => (Below.heap_setCell _ _ _ _ (by simpa using hk)).trans (Below.heap_setCell _ _ _ _ (by simpa using hk))) ⟨rfl, rfl, rfl⟩ (by omega)
end Go.Proofs.Ytokaoiiibakkoaa

namespace Go.Proofs.Ytokaoiiibakkoaa
open Go.RowKit

set_option maxRecDepth 100000 in
set_option maxHeartbeats 4000000 in
theorem names_h (L : Prs) (b rb mb : Nat) (zs0 : List Int) (vr : Value) (d : Int) (w : World) (h : Looks w b rb mb L zs0 vr) (hz0' : ReadsOk zs0) (hrs : Rises L) (hn : L.length ≤ 1000) (hd : 0 ≤ d ∧ d ≤ 9) (xs : List Int) (hp : entP L d 6 0 [] = xs) :
    Calls Try.prog 55 #[.pointer (some ⟨b, 0, none⟩), .int .i64 d] w fun e w' => ∃ l zs vz, e = .returned l ∧ Nms w b rb mb L vr zs vz xs l w' ∧ ReadsOk zs := by
  have hmb : mb < w.heap.size := h.2.2.1.lt
  have hbw : b < w.heap.size := h.1.lt
  have H : Hid (Rises L ∧ (0 ≤ d ∧ d ≤ 9) ∧ entP L d 6 0 [] = xs) := ⟨hrs, hd, hp⟩
  have HZ0 : Hid (ReadsOk zs0) := hz0'
  have H0 : Hid (Nms w b rb mb L vr zs0 vr [] (.slice none 0 0) w) := ⟨⟨h, Keeps.below _ _ _ (Below.refl _ _)⟩, Ints.nil _ _, fun k _ e => by cases e⟩
  have fs := fun h v w => field_sight0 h v w
  obtain ⟨i0, hi, hz⟩ : ∃ i, Try.prog.info? 2 = some i ∧ (i.zero, i.size, i.bytes) = (some (.int .i64 0), 1, 8) := by
    have := info_i64L
    cases q : Try.prog.info? 2 with
    | none => rw [q] at this; cases this
    | some i => rw [q] at this; exact ⟨i, rfl, Option.some.inj this⟩
  simp only [Prod.mk.injEq] at hz
  obtain ⟨hz0, hz1, hz2⟩ := hz
  clear h hrs hd hp hz0'
  go_enter Try.func55, Try.ntmps55
  go_wp2
  go_loopw [4, 6] (fun l i wr => ∃ k : Nat, k ≤ 6 ∧ i = .int .i64 k ∧ ∃ zs vz acc ao cp, l = .slice ao (List.length acc) cp ∧ List.length acc ≤ k ∧ Hid (ReadsOk zs) ∧ Hid (Nms w b rb mb L vr zs vz acc l wr ∧ entP L d 6 0 [] = entP L d (6 - k) k acc)) (fun _ i _ => 6 - (intOf i).toNat)
  case atStart => exact ⟨0, by omega, rfl, zs0, vr, [], none, 0, rfl, by simp, HZ0, H0.out, rfl⟩
  case round =>
    obtain ⟨k, hk, rfl, zs, vz, acc, ao, cp, rfl, hal, hzl, HZ⟩ := hrel
    by_cases hlt : k < 6
    · obtain ⟨t, htq⟩ : ∃ t, lookF L (kE d k) = t := ⟨_, rfl⟩
      obtain ⟨th, tz⟩ := t
      have HT : Hid (lookF L (kE d k) = (th, tz)) := htq
      have HE : Hid (entP L d 6 0 [] = entP L d (6 - (k + 1)) ((k + 1 : Nat) : Int) (if th = true then acc ++ [(k : Int)] else acc)) := HZ.out.2.trans (ent_step hlt htq)
      have hza : Hid (ReadsOk (addR zs (kE d k))) := hzl.out.add (by have := H.out.2.1; unfold kE; omega)
      have hzn := hzl.out.len
      clear htq
      go_wp2_with fail
      refine (entryKey_is d k H.out.2.1 (by omega) _).mono ?_
      rintro e w2 ⟨rfl, q2⟩
      have H2 : Hid (Nms w b rb mb L vr zs vz acc (.slice ao acc.length cp) w2) := HZ.out.1.later q2
      clear q2 HZ
      go_wp2_with fail
      refine (look_is L b rb mb zs vz (kE d k) _ H2.out.1.1 H.out.1 hn (by have := H.out.2.1; unfold kE; omega) (by omega)).mono ?_
      rintro e w3 ⟨rfl, vy, l3, k3⟩
      have H3 : Hid (Nms w b rb mb L vr (addR zs (kE d k)) vy acc (.slice ao acc.length cp) w3) := H2.out.keeps hbw hmb l3 k3
      clear l3 k3 H2
      rw [HT.out]
      cases th with
      | false =>
        go_wp2
        go_roundw
        case rel => exact ⟨k + 1, by omega, by go_num, _, vy, acc, ao, cp, rfl, by omega, hza, H3.out, HE.out⟩
        case measure => simp [intOf]; omega
      | true =>
        have hlit := fun w => run_lit1L (k : Int) w
        have HO : Hid (OwnM (w3.alloc (.cells #[.int .i64 (k : Int)] 2)) w.heap.size 2 1 (.slice ao acc.length cp) acc.length acc) := OwnM.later (show OwnM w3 w.heap.size 2 1 (.slice ao acc.length cp) acc.length acc from H3.out.2.1) (below_alloc _ _)
        have HRW : Hid (Row (w3.alloc (.cells #[.int .i64 (k : Int)] 2)) w3.heap.size 1 1 (fun p => [(k : Int)].getD p 0) (.slice (some ⟨w3.heap.size, 0, none⟩) 1 1)) := row_lit1 w3 k
        have hbase3 : w.heap.size ≤ (w3.alloc (.cells #[.int .i64 (k : Int)] 2)).heap.size := Nat.le_trans H3.out.1.2.2.1 (by simp)
        have hfits : acc.length + 1 ≤ 1048576 := by omega
        go_wp2_with (at_builtin; refine wpList_appL 2 i0 (.int .i64 0) 1 8 rfl _ _ 89 rfl Try.underlying89 hi hz0 hz1 hz2 rfl (by omega) (by omega) _ w.heap.size acc.length acc (.slice ao acc.length cp) rfl HO.out w3.heap.size 1 (fun p => [(k : Int)].getD p 0) (.slice (some ⟨w3.heap.size, 0, none⟩) 1 1) rfl HRW.out hfits hbase3 ?_; intro ao1 cp1 w6 O6 G6 N6; have H6 : Hid (Nms w b rb mb L vr (addR zs (kE d k)) vy (acc ++ [(k : Int)]) (.slice ao1 (acc.length + 1) cp1) w6) := H3.out.app hbw O6 G6 N6; clear O6 G6 N6 HO HRW)
        go_roundw
        case rel => exact ⟨k + 1, by omega, by go_num, _, vy, acc ++ [(k : Int)], ao1, cp1, by simp, by simp; omega, hza, H6.out, HE.out⟩
        case measure => simp [intOf]; omega
    · obtain rfl : k = 6 := by omega
      have HX : Hid (Nms w b rb mb L vr zs vz xs (.slice ao acc.length cp) wr) := by
        have e : acc = xs := HZ.out.2.symm.trans H.out.2.2
        unfold Hid
        rw [← e]
        exact HZ.out.1
      go_wp2
      go_ret
      exact ⟨_, zs, vz, rfl, HX.out, hzl.out⟩

/-- The box of what is told. -/
def BlkT (X : World) (tb : Nat) (v : Value) : Prop := X.cell? ⟨tb, 0, none⟩ = some v ∧ X.frozen? ⟨tb, 0, none⟩ = false
theorem BlkT.lt {X : World} {tb : Nat} {v : Value} (h : BlkT X tb v) : tb < X.heap.size := World.block_lt_of_cell? X _ h.1
theorem BlkT.kept {X X' : World} {tb : Nat} {v : Value} (h : BlkT X tb v) (hk : X'.heap[tb]? = X.heap[tb]?) : BlkT X' tb v := ⟨(World.cell?_of_block (w := X) (a := ⟨tb, 0, none⟩) hk).trans h.1, (World.frozen?_of_block (w := X) (a := ⟨tb, 0, none⟩) hk).trans h.2⟩
theorem BlkT.later {X X' : World} {tb : Nat} {v : Value} (h : BlkT X tb v) (hb : Below X.heap.size X X') : BlkT X' tb v := h.kept (hb.block tb h.lt)
def TellTo (w : World) (tb n : Nat) (acc : List Int) (v : Value) (w' : World) (v' : Value) : Prop := BlkT w' tb v' ∧ OwnM w' (tb + 1) 85 4 v' n acc ∧ Keeps w w' tb tb v v'
theorem tell_app {w w6 : World} {tb n n' : Nat} {acc acc' : List Int} {v v' : Value} (hb : BlkT w tb v) (ho : OwnM w (tb + 1) 85 4 v n acc) (O6 : OwnM w6 (tb + 1) 85 4 v' n' acc') (G6 : w.grownBy w6 v.ownBlock) (N6 : v'.ownBlock = v.ownBlock ∨ v'.ownBlock = some w.heap.size) :
    BlkT w6 tb v ∧ TellTo w tb n' acc' v (w6.setCell ⟨tb, 0, none⟩ v') v' := by
  have hlt := hb.lt
  have kp : ∀ k, k < w.heap.size → v.ownBlock ≠ some k → w6.heap[k]? = w.heap[k]? := fun k hk hne => G6.block k hk (fun e => hne e.symm)
  have ks : ∀ k, k ≠ tb → (w6.setCell ⟨tb, 0, none⟩ v').heap[k]? = w6.heap[k]? := fun k hk => Below.heap_setCell w6 ⟨tb, 0, none⟩ _ k hk
  have hB6 := hb.kept (kp tb hlt (fun e => by have := (OwnM.block ho _ e).1; omega))
  refine ⟨hB6, ⟨?_, by simpa using hB6.2⟩, OwnM.keptB O6 (fun k hk => ks k (by have := (OwnM.block O6 k hk).1; omega)), ⟨⟨G6.os, G6.tape, G6.output⟩, by simpa using G6.size, fun k hk h1 _ h3 => (ks k h1).trans (kp k hk h3), fun k hk hkw => ?_⟩⟩
  · exact World.cell?_setCell_same _ _ _ hB6.1
  · rcases N6 with q | q
    · rw [← q]; exact hk
    · rw [q] at hk
      have := Option.some.inj hk
      omega
set_option maxRecDepth 100000 in
set_option maxHeartbeats 2000000 in
theorem tell_is (tb n : Nat) (acc : List Int) (v u : Value) (B m : Nat) (F : Nat → Int) (w : World) (hb : BlkT w tb v) (ho : OwnM w (tb + 1) 85 4 v n acc) (h : Row w B 4 m F u) (hn : n + m ≤ 1000000) :
    Calls Try.prog 58 #[.pointer (some ⟨tb, 0, none⟩), u] w fun e w' => e = .returned (.tuple #[]) ∧ ∃ v', TellTo w tb (n + m) (acc ++ nums F (m * 4)) v w' v' := by
  obtain ⟨ao, cp, rfl⟩ := OwnM.form ho
  obtain ⟨uo, uc, rfl⟩ := h.form
  have H : Hid (BlkT w tb (.slice ao n cp) ∧ OwnM w (tb + 1) 85 4 (.slice ao n cp) n acc ∧ Row w B 4 m F (.slice uo m uc)) := ⟨hb, ho, h⟩
  obtain ⟨i0, hi, iz0, iz1, iz2⟩ := info_parts infoz_TN
  have hlt := hb.lt
  obtain ⟨x0, f0⟩ := hb
  clear ho h
  go_enter Try.func58, Try.ntmps58
  go_wp2_with (at_builtin; refine wpList_appL 85 i0 (.agg #[.int .i64 0, .int .i64 0, .int .i64 0, .int .i64 0]) 4 32 rfl _ _ 29 rfl Try.underlying29 hi iz0 iz1 iz2 rfl (by omega) (by omega) _ (tb + 1) n acc (.slice ao n cp) rfl H.out.2.1 B m F (.slice uo m uc) rfl H.out.2.2 (by omega) (by omega) ?_; intro ao1 cp1 w6 O6 G6 N6; have HA := tell_app H.out.1 H.out.2.1 O6 G6 N6; clear x0 f0; obtain ⟨⟨x0, f0⟩, hT⟩ := HA; have HT : Hid (TellTo w tb (n + m) (acc ++ nums F (m * 4)) (.slice ao n cp) (w6.setCell ⟨tb, 0, none⟩ (.slice ao1 (n + m) cp1)) (.slice ao1 (n + m) cp1)) := hT; clear hT O6 G6 N6)
  go_end0
  exact ⟨rfl, _, HT.out⟩
set_option maxHeartbeats 400000 in
theorem childDir_t (c cv : Int) (w : World) : Calls Try.prog 59 #[.agg #[.int .i64 c, .int .i64 cv]] w fun e w' => e = .returned (.bool (cv == 1000)) ∧ Below w.heap.size w w' := by
  go_enter Try.func59, Try.ntmps59
  go_wp2
  go_ret
  exact ⟨rfl, below_alloc _ _⟩
end Go.Proofs.Ytokaoiiibakkoaa

namespace Go.Proofs.Ytokaoiiibakkoaa
open Go.RowKit

theorem Keeps.tell {w X X' : World} {b mb tb : Nat} {vr vz v v' : Value} (h : Keeps w X b mb vr vz) (hk : Keeps X X' tb tb v v') (htb : w.heap.size ≤ tb) (hv : ∀ k, v.ownBlock = some k → w.heap.size ≤ k) : Keeps w X' b mb vr vz :=
  ⟨⟨hk.1.1.trans h.1.1, hk.1.2.1.trans h.1.2.1, hk.1.2.2.trans h.1.2.2⟩, Nat.le_trans h.2.1 hk.2.1, fun k h0 h1 h2 h3 => (hk.2.2.1 k (Nat.lt_of_lt_of_le h0 h.2.1) (by omega) (by omega) (fun e => by have := hv k e; omega)).trans (h.2.2.1 k h0 h1 h2 h3), h.2.2.2⟩
theorem Looks.keptTo {X X' : World} {b rb mb tb : Nat} {L : Prs} {zs : List Int} {vz v : Value} (h : Looks X b rb mb L zs vz) (hb : b < tb) (hv : ∀ k, v.ownBlock = some k → b < k ∧ vz.ownBlock ≠ some k) (hz : vz.ownBlock ≠ some tb) (hk : ∀ k, k < X.heap.size → k ≠ tb → v.ownBlock ≠ some k → X'.heap[k]? = X.heap[k]?) : Looks X' b rb mb L zs vz := by
  have low : ∀ k, k < X.heap.size → k ≤ b → X'.heap[k]? = X.heap[k]? := fun k h1 h2 => hk k h1 (by omega) (fun e => by have := (hv k e).1; omega)
  have hi : OwnM X (b + 1) 2 1 vz zs.length zs := h.2.2.2.1
  have ho := h.2.2.2.2
  exact ⟨h.1.kept (low b h.1.lt (Nat.le_refl _)), h.2.1.kept (fun k h1 h2 => low k h1 (by omega)) ho.1, h.2.2.1.kept (low mb h.2.2.1.lt (by omega)), OwnM.keptB hi (fun k hq => hk k (OwnM.block hi k hq).2 (fun e => hz (by rw [← e]; exact hq)) (fun e => (hv k e).2 hq)), ho⟩
/-- What stands while it is told what is below a directory. -/
def Tl (w : World) (vr : Value) (X : World) (b rb mb : Nat) (L : Prs) (zs : List Int) (vz : Value) (tb n : Nat) (acc : List Int) (v nl : Value) (xs : List Int) : Prop :=
  (Looks X b rb mb L zs vz ∧ ReadsOk zs ∧ Keeps w X b mb vr vz) ∧ (BlkT X tb v ∧ OwnM X (tb + 1) 85 4 v n acc ∧ b < tb ∧ w.heap.size ≤ tb) ∧ (Off X b mb vz tb ∧ ∀ k, v.ownBlock = some k → Off X b mb vz k) ∧ OwnM X 0 2 1 nl xs.length xs ∧ ∀ k, nl.ownBlock = some k → Off X b mb vz k ∧ Off X tb tb v k
theorem Tl.look {w X X' : World} {vr vz vy v nl : Value} {b rb mb tb n : Nat} {L : Prs} {zs ys acc xs : List Int} (h : Tl w vr X b rb mb L zs vz tb n acc v nl xs) (hl : Looks X' b rb mb L ys vy) (hr : ReadsOk ys) (hk : Keeps X X' b mb vz vy) : Tl w vr X' b rb mb L ys vy tb n acc v nl xs := by
  obtain ⟨⟨h1, h2, h3⟩, ⟨h4, h5, h6, h7⟩, ⟨h8, h9⟩, h10, h11⟩ := h
  exact ⟨⟨hl, hr, h3.trans hk⟩, ⟨h4.kept (hk.off h8).2, OwnM.keptB h5 (fun k hq => (hk.off (h9 k hq)).2), h6, h7⟩, ⟨(hk.off h8).1, fun k hq => (hk.off (h9 k hq)).1⟩, OwnM.keptB h10 (fun k hq => (hk.off (h11 k hq).1).2), fun k hq => ⟨(hk.off (h11 k hq).1).1, (h11 k hq).2.later hk.2.1⟩⟩
theorem Tl.later {w X X' : World} {vr vz v nl : Value} {b rb mb tb n : Nat} {L : Prs} {zs acc xs : List Int} (h : Tl w vr X b rb mb L zs vz tb n acc v nl xs) (hb : Below X.heap.size X X') : Tl w vr X' b rb mb L zs vz tb n acc v nl xs :=
  h.look (h.1.1.later hb) h.1.2.1 (Keeps.below _ _ _ hb)
theorem Tl.tell {w X X' : World} {vr vz v v' nl : Value} {b rb mb tb n n' : Nat} {L : Prs} {zs acc acc' xs : List Int} (h : Tl w vr X b rb mb L zs vz tb n acc v nl xs) (ht : TellTo X tb n' acc' v X' v') : Tl w vr X' b rb mb L zs vz tb n' acc' v' nl xs := by
  obtain ⟨⟨h1, h2, h3⟩, ⟨h4, h5, h6, h7⟩, ⟨h8, h9⟩, h10, h11⟩ := h
  obtain ⟨t1, t2, hk⟩ := ht
  have hvb : ∀ k, v.ownBlock = some k → tb + 1 ≤ k := fun k hq => (OwnM.block h5 k hq).1
  refine ⟨⟨h1.keptTo h6 (fun k hq => ⟨by have := hvb k hq; omega, fun e => (h9 k hq).2.2.2 e⟩) h8.2.2.2 (fun k a1 a2 a3 => hk.2.2.1 k a1 a2 a2 a3), h2, h3.tell hk h7 (fun k hq => by have := hvb k hq; omega)⟩, ⟨t1, t2, h6, h7⟩, ⟨h8.later hk.2.1, fun k hq => ?_⟩, OwnM.keptB h10 (fun k hq => (hk.off (h11 k hq).2).2), fun k hq => ⟨(h11 k hq).1.later hk.2.1, (hk.off (h11 k hq).2).1⟩⟩
  by_cases hx : k < X.heap.size
  · exact (h9 k (hk.2.2.2 k hq hx)).later hk.2.1
  · have hb1 := h1.1.lt
    have hb2 := h1.2.2.1.lt
    refine ⟨(OwnM.block t2 k hq).2, by omega, by omega, fun e => ?_⟩
    have := (h1.2.2.2.1.lt k e).2
    omega
/-- What below answers. -/
def BelRes (w : World) (b rb mb : Nat) (L : Prs) (vr : Value) (l : List Int) (e : Ending) (w' : World) : Prop :=
  ∃ u n ys vy, e = .returned u ∧ OwnM w' w.heap.size 85 4 u n l ∧ Looks w' b rb mb L ys vy ∧ ReadsOk ys ∧ Keeps w w' b mb vr vy
theorem take_snocI {xs : List Int} {k : Nat} (hk : k < xs.length) : xs.take (k + 1) = xs.take k ++ [xs.getD k 0] := by
  rw [List.take_add_one, List.getD_eq_getElem?_getD, List.getElem?_eq_getElem hk]
  rfl
theorem getD_mem {xs : List Int} {k : Nat} (hk : k < xs.length) : xs.getD k 0 ∈ xs := by
  rw [List.getD_eq_getElem?_getD, List.getElem?_eq_getElem hk]
  exact List.getElem_mem hk
theorem take_len {L : Prs} (hT : Tree L) {f : Nat} {dir depth : Int} (hd : 0 ≤ dir ∧ dir ≤ 9) (k : Nat) : (nodesX L (fun c => belowF L f c (depth + 1)) dir depth ((entP L dir 6 0 []).take k)).length ≤ 12288 := by
  have h1 := below_len hT (f + 1) dir depth hd
  rw [belowF, ← List.take_append_drop k (entP L dir 6 0 []), nodesX_append, List.length_append] at h1
  have := pw_le hd.1
  omega
set_option maxRecDepth 100000 in
set_option maxHeartbeats 4000000 in
theorem below_is (L : Prs) (hT : Tree L) (hrs : Rises L) (hn : L.length ≤ 800) (b rb mb : Nat) : ∀ (f : Nat) (dir depth : Int) (zs : List Int) (vr : Value) (w : World), Looks w b rb mb L zs vr → ReadsOk zs → 0 ≤ dir ∧ dir ≤ 9 → (9 - dir).toNat < f → 0 ≤ depth ∧ depth ≤ dir + 1 →
    Calls Try.prog 34 #[.pointer (some ⟨b, 0, none⟩), .int .i64 dir, .int .i64 depth] w (BelRes w b rb mb L vr (belowF L f dir depth))
  | 0, _, _, _, _, _, _, _, _, h, _ => absurd h (Nat.not_lt_zero _)
  | f + 1, dir, depth, zs, vr, w, hl, hz, hd, hf, hdep => by
    have HIH : Hid (∀ (dir depth : Int) (zs : List Int) (vr : Value) (w : World), Looks w b rb mb L zs vr → ReadsOk zs → 0 ≤ dir ∧ dir ≤ 9 → (9 - dir).toNat < f → 0 ≤ depth ∧ depth ≤ dir + 1 →
      Calls Try.prog 34 #[.pointer (some ⟨b, 0, none⟩), .int .i64 dir, .int .i64 depth] w (BelRes w b rb mb L vr (belowF L f dir depth))) := fun d1 d2 z1 v1 w1 a1 a2 a3 a4 a5 => below_is L hT hrs hn b rb mb f d1 d2 z1 v1 w1 a1 a2 a3 a4 a5
    have HP : Hid ((0 ≤ dir ∧ dir ≤ 9) ∧ (9 - dir).toNat < f + 1 ∧ (0 ≤ depth ∧ depth ≤ dir + 1)) := ⟨hd, hf, hdep⟩
    have hdep1 : 0 ≤ depth ∧ depth ≤ 10 := by omega
    have H0 : Hid (Tl w vr (w.alloc (.cells #[.slice none 0 0] 93)) b rb mb L zs vr w.heap.size 0 [] (.slice none 0 0) (.slice none 0 0) []) :=
      ⟨⟨hl.alloc _, hz, Keeps.below _ _ _ (below_alloc _ _)⟩, ⟨⟨World.cell?_alloc_mark w _ _ _ 0, by simp⟩, OwnM.nil _ _ _ _, hl.1.lt, Nat.le_refl _⟩, ⟨hl.off _, fun k hk => by cases hk⟩, OwnM.nil _ _ _ _, fun k hk => by cases hk⟩
    have HBF : Hid (belowF L (f + 1) dir depth = nodesX L (fun c => belowF L f c (depth + 1)) dir depth (entP L dir 6 0 [])) := rfl
    clear hl hz hd hf hdep
    go_enter Try.func34, Try.ntmps34
    go_wp2_with fail
    refine (names_h L b rb mb zs vr dir _ H0.out.1.1 H0.out.1.2.1 hrs (by omega) HP.out.1 _ rfl).mono ?_
    rintro e w1 ⟨nl, zs1, vz1, rfl, hN, hz1⟩
    have hin : ∀ x ∈ entP L dir 6 0 [], (lookF L (kE dir x)).1 = true ∧ 0 ≤ x ∧ x ≤ 5 := fun x hx => ent_in hx
    have hlen6 := ent_len L dir 6 0 []
    simp only [List.length_nil, Nat.zero_add] at hlen6
    have hni : OwnM w1 (w.alloc (.cells #[.slice none 0 0] 93)).heap.size 2 1 nl (entP L dir 6 0 []).length (entP L dir 6 0 []) := hN.2.1
    have HT0 := H0.out.look hN.1.1 hz1 hN.1.2
    have H1 : Hid (Tl w vr w1 b rb mb L zs1 vz1 w.heap.size 0 [] (.slice none 0 0) nl (entP L dir 6 0 [])) := by
      refine ⟨HT0.1, HT0.2.1, HT0.2.2.1, OwnM.monoP hni (Nat.zero_le _), fun k hk => ?_⟩
      have h1 := OwnM.block hni k hk
      have h2 : w.heap.size + 1 ≤ k := by simpa using h1.1
      have h3 := H0.out.2.1.2.2.1
      have h4 := H0.out.1.1.2.2.2.2.2
      exact ⟨⟨h1.2, by omega, by omega, fun e => hN.2.2 k e hk⟩, ⟨h1.2, by omega, by omega, fun e => by cases e⟩⟩
    obtain ⟨no, nc, rfl⟩ := OwnM.form hni
    clear hN hz1 hni HT0 H0
    generalize hxs : entP L dir 6 0 [] = xs at H1 HBF hin hlen6 ⊢
    have HXS : Hid (entP L dir 6 0 [] = xs) := hxs
    have HIN : Hid (∀ x ∈ xs, (lookF L (kE dir x)).1 = true ∧ 0 ≤ x ∧ x ≤ 5) := hin
    clear hxs hin
    go_wp2
    go_loopw [15] (fun i wr => ∃ (k n : Nat) (v : Value) (zs : List Int) (vz : Value), k ≤ xs.length ∧ i = .int .i64 k ∧ n ≤ 3072 ∧ Hid (Tl w vr wr b rb mb L zs vz w.heap.size n (nodesX L (fun c => belowF L f c (depth + 1)) dir depth (xs.take k)) v (.slice no xs.length nc) xs)) (fun i _ => xs.length - (intOf i).toNat)
    case atStart => exact ⟨0, 0, _, zs1, vz1, Nat.zero_le _, rfl, Nat.zero_le _, H1.out⟩
    case round =>
      obtain ⟨k, n, v, zs2, vz2, hk, rfl, hnn, HS⟩ := hrel
      clear H1
      by_cases hlt : k < xs.length
      case neg =>
        obtain rfl : k = xs.length := by omega
        have HE : Hid (Tl w vr wr b rb mb L zs2 vz2 w.heap.size n (belowF L (f + 1) dir depth) v (.slice no xs.length nc) xs) := by
          have := HS.out
          rw [List.take_length] at this
          unfold Hid
          rw [HBF.out]
          exact this
        obtain ⟨x0, f0⟩ := HE.out.2.1.1
        obtain ⟨vo, vc, rfl⟩ := OwnM.form HE.out.2.1.2.1
        clear HS HIH
        go_wp2
        go_ret
        exact ⟨_, n, zs2, vz2, rfl, OwnM.monoP HE.out.2.1.2.1 (by omega), HE.out.1.1, HE.out.1.2.1, HE.out.1.2.2⟩
      have hrow := (OwnM.rowL HS.out.2.2.2.1).1
      obtain ⟨g, o, rfl, _, hg, y0⟩ := hrow.at1 hlt
      obtain ⟨x, hx⟩ : ∃ x, xs.getD k 0 = x := ⟨_, rfl⟩
      rw [hx] at y0
      have hxin := HIN.out x (hx ▸ getD_mem hlt)
      have HTK : Hid (xs.take (k + 1) = xs.take k ++ [x]) := by unfold Hid; rw [take_snocI hlt, hx]
      obtain ⟨t, htq⟩ : ∃ t, lookF L (kE dir x) = t := ⟨_, rfl⟩
      obtain ⟨th, c⟩ := t
      have hth := hxin.1
      rw [htq] at hth
      simp only at hth
      subst hth
      have HT1 : Hid (lookF L (kE dir x) = (true, c)) := htq
      have hc := hT.ino dir x HP.out.1 hxin.2 hxin.1
      have hup := hT.up dir x HP.out.1 hxin.2 hxin.1
      rw [htq] at hc hup
      simp only at hc hup
      obtain ⟨cv, hcvq⟩ : ∃ cv, (lookF L (kI c)).2 = cv := ⟨_, rfl⟩
      have HT2 : Hid ((lookF L (kI c)).2 = cv) := hcvq
      rw [hcvq] at hup
      have HNX : Hid (nodesX L (fun c => belowF L f c (depth + 1)) dir depth (xs.take (k + 1)) = nodesX L (fun c => belowF L f c (depth + 1)) dir depth (xs.take k) ++ ([c, depth, x, cv] ++ (if cv = 1000 then belowF L f c (depth + 1) else []))) := by
        unfold Hid
        rw [HTK.out, nodesX_append, nodesX, nodesX, List.append_nil]
        unfold nodeX
        rw [htq]
        simp only
        rw [hcvq]
      have hpl := take_len hT (f := f) (depth := depth) HP.out.1 (k + 1)
      rw [HXS.out, HNX.out] at hpl
      have hol := OwnM.len HS.out.2.1.2.1
      rw [List.length_append, hol] at hpl
      have hx5 : 0 ≤ x ∧ x ≤ 5 := hxin.2
      clear hx hxin htq hcvq hrow HTK
      go_wp2_with fail
      refine (entryKey_is dir x HP.out.1 hx5 _).mono ?_
      rintro e w2 ⟨rfl, q2⟩
      have HS2 := HS.out.later q2
      have HS2h : Hid (Tl w vr w2 b rb mb L zs2 vz2 w.heap.size n (nodesX L (fun c => belowF L f c (depth + 1)) dir depth (xs.take k)) v (.slice (some ⟨g, o, none⟩) xs.length nc) xs) := HS2
      clear q2 HS HS2 y0
      go_wp2_with fail
      refine (look_is L b rb mb zs2 vz2 (kE dir x) _ HS2h.out.1.1 hrs (by omega) (by have := HP.out.1; unfold kE; omega) (by have := HS2h.out.1.2.1.len; omega)).mono ?_
      rintro e w3 ⟨rfl, vz3, hl3, hk3⟩
      rw [HT1.out]
      have HS3 : Hid (Tl w vr w3 b rb mb L (addR zs2 (kE dir x)) vz3 w.heap.size n (nodesX L (fun c => belowF L f c (depth + 1)) dir depth (xs.take k)) v (.slice (some ⟨g, o, none⟩) xs.length nc) xs) := HS2h.out.look hl3 (HS2h.out.1.2.1.add (by have := HP.out.1; unfold kE; omega)) hk3
      clear hl3 hk3 HS2h
      go_wp2_with fail
      refine (lookChild_is L b rb mb _ vz3 true c _ HS3.out.1.1 hrs (by omega) hc.1 (by have := HS3.out.1.2.1.len; omega) c cv (by unfold minC; split <;> omega) HT2.out).mono ?_
      rintro e w4 ⟨rfl, vz4, hl4, hk4⟩
      have HS4 : Hid (Tl w vr w4 b rb mb L (addR (addR zs2 (kE dir x)) (kI c)) vz4 w.heap.size n (nodesX L (fun c => belowF L f c (depth + 1)) dir depth (xs.take k)) v (.slice (some ⟨g, o, none⟩) xs.length nc) xs) := HS3.out.look hl4 (HS3.out.1.2.1.add (by unfold kI; omega)) hk4
      clear hl4 hk4 HS3
      generalize addR (addR zs2 (kE dir x)) (kI c) = zs4 at HS4
      generalize nodesX L (fun c => belowF L f c (depth + 1)) dir depth (xs.take k) = acc at HS4 HNX hol
      have HS5 : Hid (Tl w vr ((w4.alloc (.cells #[.int .i64 c, .int .i64 cv] 96)).alloc (.cells #[.int .i64 c, .int .i64 depth, .int .i64 x, .int .i64 cv] 85)) b rb mb L zs4 vz4 w.heap.size n acc v (.slice (some ⟨g, o, none⟩) xs.length nc) xs ∧ Blk2 ((w4.alloc (.cells #[.int .i64 c, .int .i64 cv] 96)).alloc (.cells #[.int .i64 c, .int .i64 depth, .int .i64 x, .int .i64 cv] 85)) w4.heap.size (.int .i64 c) (.int .i64 cv) ∧ Off ((w4.alloc (.cells #[.int .i64 c, .int .i64 cv] 96)).alloc (.cells #[.int .i64 c, .int .i64 depth, .int .i64 x, .int .i64 cv] 85)) w.heap.size w.heap.size v w4.heap.size) := by
        refine ⟨HS4.out.later ((below_alloc _ _).alloc (by simp) _), (Blk2.new _ _ _ _).alloc _, by simp; omega, ?_, ?_, fun e => ?_⟩
        · exact fun e => by have := HS4.out.2.1.1.lt; omega
        · exact fun e => by have := HS4.out.2.1.1.lt; omega
        · have := (OwnM.block HS4.out.2.1.2.1 _ e).2; omega
      go_wp2_with fail
      generalize hY : (w4.alloc (.cells #[.int .i64 c, .int .i64 cv] 96)).alloc (.cells #[.int .i64 c, .int .i64 depth, .int .i64 x, .int .i64 cv] 85) = w5 at HS5 ⊢
      have hrw : Row w5 0 4 1 (fun p => [c, depth, x, cv].getD p 0) (.slice (some ⟨w4.heap.size + 1, 0, none⟩) 1 1) := by
        subst hY
        have := row_lit4 (w4.alloc (.cells #[.int .i64 c, .int .i64 cv] 96)) c depth x cv 85
        rwa [World.size_alloc] at this
      clear hY HS4
      refine (tell_is w.heap.size n acc v _ 0 1 _ _ HS5.out.1.2.1.1 HS5.out.1.2.1.2.1 hrw (by omega)).mono ?_
      rintro e w6 ⟨rfl, v6, ht6⟩
      rw [nums_four] at ht6
      have HS6 : Hid (Tl w vr w6 b rb mb L zs4 vz4 w.heap.size (n + 1) (acc ++ [c, depth, x, cv]) v6 (.slice (some ⟨g, o, none⟩) xs.length nc) xs ∧ Blk2 w6 w4.heap.size (.int .i64 c) (.int .i64 cv)) := ⟨HS5.out.1.tell ht6, HS5.out.2.1.kept (ht6.2.2.off HS5.out.2.2).2⟩
      clear hrw ht6 HS5
      obtain ⟨⟨c0, c1⟩, _⟩ := HS6.out.2
      go_wp2_with fail
      refine (childDir_t c cv _).mono ?_
      rintro e w7 ⟨rfl, q7⟩
      have HS7 : Hid (Tl w vr w7 b rb mb L zs4 vz4 w.heap.size (n + 1) (acc ++ [c, depth, x, cv]) v6 (.slice (some ⟨g, o, none⟩) xs.length nc) xs ∧ Blk2 w7 w4.heap.size (.int .i64 c) (.int .i64 cv)) := ⟨HS6.out.1.later q7, HS6.out.2.later q7⟩
      clear q7 HS6 c0 c1
      obtain ⟨⟨c0, c1⟩, _⟩ := HS7.out.2
      by_cases hcv : cv = 1000
      · have dcv : (cv == 1000) = true := beq_iff_eq.2 hcv
        have hdc := hup hcv
        rw [if_pos hcv] at hpl
        have HNX2 : Hid (nodesX L (fun c => belowF L f c (depth + 1)) dir depth (xs.take (k + 1)) = (acc ++ [c, depth, x, cv]) ++ belowF L f c (depth + 1)) := by
          unfold Hid
          rw [HNX.out, if_pos hcv, List.append_assoc]
        clear hup hcv HNX
        have hdep2 : 0 ≤ depth + 1 ∧ depth + 1 ≤ 11 := by omega
        go_wp2_with fail
        refine (HIH.out c (depth + 1) zs4 vz4 _ HS7.out.1.1.1 HS7.out.1.1.2.1 hc (by have := HP.out; omega) (by have := HP.out; omega)).mono ?_
        rintro e w8 ⟨u, m, ys8, vy8, rfl, hu, hl8, hr8, hk8⟩
        have hum := OwnM.len hu
        have hself := nums_self (l := belowF L f c (depth + 1)) hum
        have HS8 : Hid (Tl w vr w8 b rb mb L ys8 vy8 w.heap.size (n + 1) (acc ++ [c, depth, x, cv]) v6 (.slice (some ⟨g, o, none⟩) xs.length nc) xs) := HS7.out.1.look hl8 hr8 hk8
        have HU : Hid (Row w8 w7.heap.size 4 m (fun p => (belowF L f c (depth + 1)).getD p 0) u) := (OwnM.rowL hu).1
        rw [List.length_append, hum] at hpl
        simp only [List.length_cons, List.length_nil] at hpl
        clear hu hl8 hr8 hk8 HS7 c0 c1
        go_wp2_with fail
        refine (tell_is w.heap.size (n + 1) _ v6 u _ m _ _ HS8.out.2.1.1 HS8.out.2.1.2.1 HU.out (by omega)).mono ?_
        rintro e w9 ⟨rfl, v9, ht9⟩
        rw [hself] at ht9
        have HS9 : Hid (Tl w vr w9 b rb mb L ys8 vy8 w.heap.size (n + 1 + m) (nodesX L (fun c => belowF L f c (depth + 1)) dir depth (xs.take (k + 1))) v9 (.slice (some ⟨g, o, none⟩) xs.length nc) xs) := by
          unfold Hid
          rw [HNX2.out]
          exact HS8.out.tell ht9
        clear ht9 HS8 HU hself
        go_wp2
        go_roundw
        case rel => exact ⟨k + 1, n + 1 + m, v9, ys8, vy8, by omega, by go_num, by omega, HS9⟩
        case measure => simp [intOf]; omega
      · have dcv : (cv == 1000) = false := beq_eq_false_iff_ne.2 hcv
        rw [if_neg hcv] at hpl
        simp only [List.append_nil, List.length_cons, List.length_nil] at hpl
        have HS8 : Hid (Tl w vr w7 b rb mb L zs4 vz4 w.heap.size (n + 1) (nodesX L (fun c => belowF L f c (depth + 1)) dir depth (xs.take (k + 1))) v6 (.slice (some ⟨g, o, none⟩) xs.length nc) xs) := by
          unfold Hid
          rw [HNX.out, if_neg hcv, List.append_nil]
          exact HS7.out.1
        clear hup hcv HNX HIH HS7 c0 c1
        go_wp2
        go_roundw
        case rel => exact ⟨k + 1, n + 1, v6, zs4, vz4, by omega, by go_num, by omega, HS8⟩
        case measure => simp [intOf]; omega
end Go.Proofs.Ytokaoiiibakkoaa

namespace Go.Proofs.Ytokaoiiibakkoaa
open Go.RowKit

/-- What TreeOf answers. -/
def TreAns (n : Nat) (F : Nat → Int) (c : Int) (N : Nat) (l : List Int) : Prop := (fsF n F ≠ 0 ∧ c = fsF n F ∧ N = 0 ∧ l = []) ∨ (fsF n F = 0 ∧ c = 0 ∧ l.length = N * 4 ∧ l = belowF (listOf F n) 10 0 1)
theorem TreAns.get (n : Nat) (F : Nat → Int) : ∃ c N l, TreAns n F c N l ∧ N ≤ 3072 := by
  by_cases h : fsF n F = 0
  · obtain ⟨q, hq⟩ := below_four (listOf F n) 10 0 1
    refine ⟨0, q, _, Or.inr ⟨h, rfl, hq, rfl⟩, ?_⟩
    have := below_len (whole_tree (fsF_zero h).2) 10 0 1 (by omega)
    have := pw_le (show (0 : Int) ≤ 0 by omega)
    omega
  · exact ⟨_, 0, [], Or.inl ⟨h, rfl, rfl, rfl⟩, by omega⟩
def ResTree (w : World) (c : Int) (N : Nat) (l : List Int) (e : Ending) (w' : World) : Prop := ∃ v, e = .returned (.agg #[.int .i64 c, v]) ∧ OwnM w' w.heap.size 85 4 v N l ∧ Below w.heap.size w w'
set_option maxRecDepth 100000 in
set_option maxHeartbeats 2000000 in
theorem specTree_is (y : Value) (B n : Nat) (F : Nat → Int) (c : Int) (N : Nat) (l : List Int) (w : World) (h : Row w B 2 n F y) (hn : n ≤ 1048576) (ha : TreAns n F c N l) :
    Calls Try.prog 11 #[y] w (ResTree w c N l) := by
  have H : Hid (Row w B 2 n F y) := h
  clear h
  rcases ha with ⟨h1, rfl, rfl, rfl⟩ | ⟨h1, rfl, hN, hl⟩
  · obtain ⟨f, hf⟩ : ∃ f, fsF n F = f := ⟨_, rfl⟩
    have HF : Hid (fsF n F = f) := hf
    have dd : (f != 0) = true := bne_iff_ne.2 (by rw [← hf]; exact h1)
    rw [hf]
    clear h1 hf
    go_enter Try.func11, Try.ntmps11
    go_wp2_with fail
    refine (specFs_is _ B n F _ (H.out.alloc _) hn).mono ?_
    rintro e w1 ⟨rfl, q1⟩
    rw [HF.out]
    have H1 : Hid (Blk2 w1 w.heap.size (.int .i64 0) (.slice none 0 0) ∧ Below w.heap.size w w1) := ⟨(Blk2.new w _ _ _).later q1, (below_alloc _ _).trans (q1.mono (by simp))⟩
    clear q1
    obtain ⟨⟨x0, x1⟩, y0, y1⟩ := H1.out.1
    go_wp2
    refine bodyPost_ret (v := .agg #[.int .i64 f, .slice none 0 0]) (by simp [results, Try.results11, go_sem, x0, x1]) rfl ⟨_, rfl, OwnM.nil _ _ _ _, ?_⟩
    exact (H1.out.2.setCell (by simp) _).setCell (by simp) _
  have HF : Hid (fsF n F = 0) := h1
  have hn2 := (pairs_rise (fsF_zero h1).1).2
  have HW : Hid (Rises (listOf F n) ∧ Tree (listOf F n)) := ⟨(pairs_rise (fsF_zero h1).1).1, whole_tree (fsF_zero h1).2⟩
  clear h1
  go_enter Try.func11, Try.ntmps11
  go_wp2_with fail
  refine (specFs_is _ B n F _ (H.out.alloc _) hn).mono ?_
  rintro e w1 ⟨rfl, q1⟩
  rw [HF.out]
  have H1 : Hid (Blk2 w1 w.heap.size (.int .i64 0) (.slice none 0 0) ∧ Below w.heap.size w w1) := ⟨(Blk2.new w _ _ _).later q1, (below_alloc _ _).trans (q1.mono (by simp))⟩
  clear q1
  go_wp2_with fail
  refine (l14Below_is (listOf F n) HW.out.2 (by rw [listOf_length]; omega) 10 0 1 _ B _ (row_list (H.out.later H1.out.2)) (by omega) (by decide) (by omega)).mono ?_
  rintro e w2 ⟨u, n2, rfl, hu, q2⟩
  rw [← hl] at hu
  obtain rfl : n2 = N := by have := OwnM.len hu; omega
  have HX : Hid (Blk2 w2 w.heap.size (.int .i64 0) (.slice none 0 0) ∧ Below w.heap.size w w2 ∧ OwnM w2 w1.heap.size 85 4 u n2 l) := ⟨H1.out.1.later q2, H1.out.2.trans (q2.mono H1.out.2.size), hu⟩
  have HL : Hid (w.heap.size < w1.heap.size) := H1.out.1.lt
  clear hu q2 H1 hl
  obtain ⟨uo, uc, rfl⟩ := OwnM.form HX.out.2.2
  obtain ⟨⟨x0, x1⟩, y0, y1⟩ := HX.out.1
  have HP : Hid (_ ∧ _) := (Blk2.put HX.out.1 (.int .i64 0) (.slice uo n2 uc)).1
  go_wp2
  refine bodyPost_ret (v := .agg #[.int .i64 0, .slice uo n2 uc]) (by simp [results, Try.results11, go_sem, HP.out.1, HP.out.2]) rfl ⟨_, rfl, ?_, (HX.out.2.1.setCell (by simp) _).setCell (by simp) _⟩
  have hi := HX.out.2.2
  have hlo := HL.out
  exact OwnM.monoP (OwnM.keptB hi (fun k hk => (Below.heap_setCell _ ⟨w.heap.size, 1, none⟩ _ k (by have := (OwnM.block hi k hk).1; simp; omega)).trans (Below.heap_setCell _ ⟨w.heap.size, 0, none⟩ _ k (by have := (OwnM.block hi k hk).1; simp; omega)))) (by omega)
set_option maxRecDepth 100000 in
set_option maxHeartbeats 2000000 in
theorem implTree_is (y : Value) (B n : Nat) (F : Nat → Int) (c : Int) (N : Nat) (l : List Int) (w : World) (h : Row w B 2 n F y) (hn : n ≤ 1048576) (ha : TreAns n F c N l) :
    Calls Try.prog 12 #[y] w (ResTree w c N l) := by
  have H : Hid (Row w B 2 n F y) := h
  clear h
  rcases ha with ⟨h1, rfl, rfl, rfl⟩ | ⟨h1, rfl, hN, hl⟩
  · obtain ⟨f, hf⟩ : ∃ f, fsF n F = f := ⟨_, rfl⟩
    have HF : Hid (fsF n F = f) := hf
    have dd : (f != 0) = true := bne_iff_ne.2 (by rw [← hf]; exact h1)
    rw [hf]
    clear h1 hf
    go_enter Try.func12, Try.ntmps12
    go_wp2_with fail
    refine (implFs_is _ B n F _ (H.out.alloc _) hn).mono ?_
    rintro e w1 ⟨rfl, q1⟩
    rw [HF.out]
    have H1 : Hid (Blk2 w1 w.heap.size (.int .i64 0) (.slice none 0 0) ∧ Below w.heap.size w w1) := ⟨(Blk2.new w _ _ _).later q1, (below_alloc _ _).trans (q1.mono (by simp))⟩
    clear q1
    obtain ⟨⟨x0, x1⟩, y0, y1⟩ := H1.out.1
    go_wp2
    refine bodyPost_ret (v := .agg #[.int .i64 f, .slice none 0 0]) (by simp [results, Try.results12, go_sem, x0, x1]) rfl ⟨_, rfl, OwnM.nil _ _ _ _, ?_⟩
    exact (H1.out.2.setCell (by simp) _).setCell (by simp) _
  have HF : Hid (fsF n F = 0) := h1
  have hn2 := (pairs_rise (fsF_zero h1).1).2
  have HW : Hid (Rises (listOf F n) ∧ Tree (listOf F n)) := ⟨(pairs_rise (fsF_zero h1).1).1, whole_tree (fsF_zero h1).2⟩
  clear h1
  go_enter Try.func12, Try.ntmps12
  go_wp2_with fail
  refine (implFs_is _ B n F _ (H.out.alloc _) hn).mono ?_
  rintro e w1 ⟨rfl, q1⟩
  rw [HF.out]
  have H1 : Hid (Blk2 w1 w.heap.size (.int .i64 0) (.slice none 0 0) ∧ Below w.heap.size w w1) := ⟨(Blk2.new w _ _ _).later q1, (below_alloc _ _).trans (q1.mono (by simp))⟩
  clear q1
  go_wp2_with fail
  refine (lookAt_is (listOf F n) _ B _ (row_list (H.out.later H1.out.2)) HW.out.1 (by rw [listOf_length]; omega)).mono ?_
  rintro e w2 ⟨b, rb, mb, rfl, hlk, hrb, q2⟩
  have H2 : Hid (Blk2 w2 w.heap.size (.int .i64 0) (.slice none 0 0) ∧ Below w.heap.size w w2 ∧ Looks w2 b rb mb (listOf F n) [] (.slice none 0 0) ∧ w1.heap.size ≤ rb ∧ w1.heap.size ≤ w2.heap.size) := ⟨H1.out.1.later q2, H1.out.2.trans (q2.mono H1.out.2.size), hlk, hrb, q2.size⟩
  have HL1 : Hid (w.heap.size < w1.heap.size) := H1.out.1.lt
  clear hlk hrb q2 H1
  go_wp2_with fail
  refine (below_is (listOf F n) HW.out.2 HW.out.1 (by rw [listOf_length]; omega) b rb mb 10 0 1 [] _ _ H2.out.2.2.1 ReadsOk.nil (by omega) (by decide) (by omega)).mono ?_
  rintro e w3 ⟨u, n2, ys, vy, rfl, hu, hl3, hr3, hk3⟩
  rw [← hl] at hu
  obtain rfl : n2 = N := by have := OwnM.len hu; omega
  have hord := H2.out.2.2.1.2.2.2.2
  have hrb := H2.out.2.2.2.1
  have HX : Hid (Blk2 w3 w.heap.size (.int .i64 0) (.slice none 0 0) ∧ Below w.heap.size w w3 ∧ OwnM w3 w2.heap.size 85 4 u n2 l) := by
    have hL := HL1.out
    refine ⟨H2.out.1.kept (hk3.2.2.1 w.heap.size H2.out.1.lt (by omega) (by omega) (fun e => by cases e)), H2.out.2.1.trans (hk3.toBelow H2.out.2.1.size (by omega) (by omega) (fun k hk => by cases hk)), hu⟩
  have HL : Hid (w.heap.size < w2.heap.size) := H2.out.1.lt
  clear hu hl3 hr3 hk3 H2 hl hord hrb
  obtain ⟨uo, uc, rfl⟩ := OwnM.form HX.out.2.2
  obtain ⟨⟨x0, x1⟩, y0, y1⟩ := HX.out.1
  have HP : Hid (_ ∧ _) := (Blk2.put HX.out.1 (.int .i64 0) (.slice uo n2 uc)).1
  go_wp2
  refine bodyPost_ret (v := .agg #[.int .i64 0, .slice uo n2 uc]) (by simp [results, Try.results12, go_sem, HP.out.1, HP.out.2]) rfl ⟨_, rfl, ?_, (HX.out.2.1.setCell (by simp) _).setCell (by simp) _⟩
  have hi := HX.out.2.2
  have hlo := HL.out
  exact OwnM.monoP (OwnM.keptB hi (fun k hk => (Below.heap_setCell _ ⟨w.heap.size, 1, none⟩ _ k (by have := (OwnM.block hi k hk).1; simp; omega)).trans (Below.heap_setCell _ ⟨w.heap.size, 0, none⟩ _ k (by have := (OwnM.block hi k hk).1; simp; omega)))) (by omega)
end Go.Proofs.Ytokaoiiibakkoaa

namespace Go.Proofs.Ytokaoiiibakkoaa
open Go.RowKit

set_option maxHeartbeats 400000 in
theorem eqTreeNode_same (x0 x1 x2 x3 : Int) (w : World) :
    Calls Try.prog 60 #[.agg #[.int .i64 x0, .int .i64 x1, .int .i64 x2, .int .i64 x3], .agg #[.int .i64 x0, .int .i64 x1, .int .i64 x2, .int .i64 x3]] w fun e w' => e = .returned (.bool true) ∧ Below w.heap.size w w' := by
  go_enter Try.func60, Try.ntmps60
  go_wp2
  go_ret
  exact ⟨rfl, ((Below.refl _ _).alloc (Nat.le_refl _) _).alloc (by simp) _⟩
def TwoTreeNode (w : World) (g o g' o' k : Nat) (F : Nat → Int) (x : World) : Prop := (x.cell? ⟨g, o + k * 4, none⟩ = some (.int .i64 (F (k * 4))) ∧ x.cell? ⟨g, o + k * 4 + 1, none⟩ = some (.int .i64 (F (k * 4 + 1))) ∧ x.cell? ⟨g, o + k * 4 + 2, none⟩ = some (.int .i64 (F (k * 4 + 2))) ∧ x.cell? ⟨g, o + k * 4 + 3, none⟩ = some (.int .i64 (F (k * 4 + 3))) ∧ x.cell? ⟨g', o' + k * 4, none⟩ = some (.int .i64 (F (k * 4))) ∧ x.cell? ⟨g', o' + k * 4 + 1, none⟩ = some (.int .i64 (F (k * 4 + 1))) ∧ x.cell? ⟨g', o' + k * 4 + 2, none⟩ = some (.int .i64 (F (k * 4 + 2))) ∧ x.cell? ⟨g', o' + k * 4 + 3, none⟩ = some (.int .i64 (F (k * 4 + 3)))) ∧ Below w.heap.size w x
theorem TwoTreeNode.later {w x x' : World} {g o g' o' k : Nat} {F : Nat → Int} (h : TwoTreeNode w g o g' o' k F x) (hg : g < w.heap.size) (hg' : g' < w.heap.size) (hb : Below x.heap.size x x') : TwoTreeNode w g o g' o' k F x' := by
  obtain ⟨⟨hx0, hx1, hx2, hx3, hx4, hx5, hx6, hx7⟩, hy⟩ := h
  exact ⟨⟨(hb.cell (Nat.lt_of_lt_of_le hg hy.size)).trans hx0, (hb.cell (Nat.lt_of_lt_of_le hg hy.size)).trans hx1, (hb.cell (Nat.lt_of_lt_of_le hg hy.size)).trans hx2, (hb.cell (Nat.lt_of_lt_of_le hg hy.size)).trans hx3, (hb.cell (Nat.lt_of_lt_of_le hg' hy.size)).trans hx4, (hb.cell (Nat.lt_of_lt_of_le hg' hy.size)).trans hx5, (hb.cell (Nat.lt_of_lt_of_le hg' hy.size)).trans hx6, (hb.cell (Nat.lt_of_lt_of_le hg' hy.size)).trans hx7⟩, hy.trans (hb.mono hy.size)⟩
set_option maxRecDepth 100000 in
set_option maxHeartbeats 1000000 in
theorem eqTreeNodeS_same (va vb : Value) (Ba Bb n : Nat) (F : Nat → Int) (w : World) (ha : Row w Ba 4 n F va) (hb : Row w Bb 4 n F vb) (hn : n ≤ 1048576) :
    Calls Try.prog 35 #[va, vb] w fun e w' => e = .returned (.bool true) ∧ Below w.heap.size w w' := by
  obtain ⟨ao, ca, rfl⟩ := ha.form
  obtain ⟨bo, cb, rfl⟩ := hb.form
  have HA : Hid (Row w Ba 4 n F (.slice ao n ca)) := ha
  have HB : Hid (Row w Bb 4 n F (.slice bo n cb)) := hb
  clear ha hb
  go_enter Try.func35, Try.ntmps35
  go_wp2
  go_loopw [5] (fun i wr => ∃ k : Nat, k ≤ n ∧ i = .int .i64 k ∧ Below w.heap.size w wr) (fun i _ => n - (intOf i).toNat)
  case atStart => exact ⟨0, Nat.zero_le _, rfl, Below.refl _ _⟩
  case round =>
    obtain ⟨k, hk, rfl, hbw⟩ := hrel
    by_cases hlt : k < n
    · obtain ⟨g, o, rfl, _, hg, c0, c1, c2, c3⟩ := HA.out.at4 hlt
      obtain ⟨g', o', rfl, _, hg', d0, d1, d2, d3⟩ := HB.out.at4 hlt
      have h0 : TwoTreeNode w g o g' o' k F wr.drew := ⟨⟨(hbw.cell (p := ⟨g, o + k * 4, none⟩) hg).trans c0, (hbw.cell (p := ⟨g, o + k * 4 + 1, none⟩) hg).trans c1, (hbw.cell (p := ⟨g, o + k * 4 + 2, none⟩) hg).trans c2, (hbw.cell (p := ⟨g, o + k * 4 + 3, none⟩) hg).trans c3, (hbw.cell (p := ⟨g', o' + k * 4, none⟩) hg').trans d0, (hbw.cell (p := ⟨g', o' + k * 4 + 1, none⟩) hg').trans d1, (hbw.cell (p := ⟨g', o' + k * 4 + 2, none⟩) hg').trans d2, (hbw.cell (p := ⟨g', o' + k * 4 + 3, none⟩) hg').trans d3⟩, hbw.drew⟩
      clear c0 d0 c1 d1 c2 d2 c3 d3 hbw
      go_wp2_with fail
      refine wp_region_held_drew (S := TwoTreeNode w g o g' o' k F) (by kernel_rfl) h0 (fun hS => ?_)
      clear h0
      refine tkH 0 ?_ hS (fun wx hx => ?_) ?_; rotate_left
      · obtain ⟨⟨hx0, hx1, hx2, hx3, hx4, hx5, hx6, hx7⟩, _⟩ := hx; go_simp; try with_reducible rfl
      refine tkH 1 ?_ hS (fun wx hx => ?_) ?_; rotate_left
      · obtain ⟨⟨hx0, hx1, hx2, hx3, hx4, hx5, hx6, hx7⟩, _⟩ := hx; go_simp; try with_reducible rfl
      refine tkH 2 ?_ hS (fun wx hx => ?_) ?_; rotate_left
      · obtain ⟨⟨hx0, hx1, hx2, hx3, hx4, hx5, hx6, hx7⟩, _⟩ := hx; go_simp; try with_reducible rfl
      refine tkH 3 ?_ hS (fun wx hx => ?_) ?_; rotate_left
      · obtain ⟨⟨hx0, hx1, hx2, hx3, hx4, hx5, hx6, hx7⟩, _⟩ := hx; go_simp; try with_reducible rfl
      refine tkH 4 ?_ hS (fun wx hx => ?_) ?_; rotate_left
      · obtain ⟨⟨hx0, hx1, hx2, hx3, hx4, hx5, hx6, hx7⟩, _⟩ := hx; go_simp; try with_reducible rfl
      refine tkH 5 ?_ hS (fun wx hx => ?_) ?_; rotate_left
      · obtain ⟨⟨hx0, hx1, hx2, hx3, hx4, hx5, hx6, hx7⟩, _⟩ := hx; go_simp; try with_reducible rfl
      refine tkH 6 ?_ hS (fun wx hx => ?_) ?_; rotate_left
      · obtain ⟨⟨hx0, hx1, hx2, hx3, hx4, hx5, hx6, hx7⟩, _⟩ := hx; go_simp; try with_reducible rfl
      refine tkH 7 ?_ hS (fun wx hx => ?_) ?_; rotate_left
      · obtain ⟨⟨hx0, hx1, hx2, hx3, hx4, hx5, hx6, hx7⟩, _⟩ := hx; go_simp; try with_reducible rfl
      refine rdH 8 (fun K hK => ?_)
      go_simp
      go_wp2_with fail
      refine (eqTreeNode_same _ _ _ _ _).mono ?_
      rintro e w' ⟨rfl, hb⟩
      go_wp2_with fail
      refine hK.out _ _ (hS.later hg hg' hb) (fun hS => ?_)
      clear hK K
      refine tkH 9 ?_ hS (fun wx hx => ?_) ?_; rotate_left
      · obtain ⟨⟨hx0, hx1, hx2, hx3, hx4, hx5, hx6, hx7⟩, _⟩ := hx; go_simp; try with_reducible rfl
      refine wpAnyH_done (by kernel_rfl) ?_ _
      go_simp
      go_wp2
      go_roundw
      case rel => exact ⟨k + 1, by omega, by go_num, hS.2⟩
      case measure => simp [intOf]; omega
    · go_wp2
      go_ret
      exact ⟨rfl, hbw⟩
set_option maxRecDepth 100000 in
set_option maxHeartbeats 2000000 in
theorem markTreeNodeS_any (v : Value) (B n : Nat) (F : Nat → Int) (k0 : Int) (w : World) (h : Row w B 4 n F v) (hf : Free w (n * 4) v) (hn : n ≤ 1048576) (hk0 : 0 ≤ k0) (hk1 : k0 ≤ 100000000) :
    Calls Try.prog 36 #[v, .int .i64 k0] w fun e w' => e = .returned (.int .i64 (k0 + n * 4)) ∧ Row w' B 4 n (fun p => k0 + (p : Nat)) v ∧ Free w' (n * 4) v ∧ w.grownBy w' v.ownBlock := by
  obtain ⟨ao, cp, rfl⟩ := h.form
  have H0 : Hid (Marked w w B 4 n 0 k0 ao cp) := Marked.start h hf k0
  clear h hf
  go_enter Try.func36, Try.ntmps36
  go_wp2
  go_loopw [1, 5] (fun k i wr => ∃ j : Nat, j ≤ n ∧ i = .int .i64 j ∧ k = .int .i64 (k0 + j * 4) ∧ Hid (Marked w wr B 4 n j k0 ao cp)) (fun _ i _ => n - (intOf i).toNat)
  case atStart => exact ⟨0, Nat.zero_le _, rfl, by go_num, H0⟩
  case round =>
    obtain ⟨j, hj, rfl, rfl, hM⟩ := hrel
    by_cases hlt : j < n
    · obtain ⟨g, o, rfl, hB, hF⟩ := hM.out.1 (by omega)
      obtain ⟨u0, c0, e0⟩ := hF.at (p := j * 4) (by omega)
      obtain ⟨u1, c1, e1⟩ := hF.at (p := j * 4 + 1) (by omega)
      obtain ⟨u2, c2, e2⟩ := hF.at (p := j * 4 + 2) (by omega)
      obtain ⟨u3, c3, e3⟩ := hF.at (p := j * 4 + 3) (by omega)
      simp only [← Nat.add_assoc] at c0 e0 c1 e1 c2 e2 c3 e3
      have HF : Hid (Fill wr g o (n * 4) (j * 4) (fun p => k0 + (p : Nat)) ∧ w.grownBy wr (some g)) := ⟨hF, hM.out.2⟩
      clear hF hM H0
      go_wp2
      go_roundw
      case rel => exact ⟨j + 1, by omega, by go_num, by go_num, fun _ => ⟨g, o, rfl, hB, by rw [Nat.succ_mul]; exact ((((HF.out.1.step (by omega) (by omega) (by omega)).step (by omega) (by omega) (by omega)).step (by omega) (by omega) (by omega)).step (by omega) (by omega) (by omega))⟩, (grownBy_set (grownBy_set (grownBy_set (grownBy_set HF.out.2 _ _) _ _) _ _) _ _)⟩
      case measure => simp [intOf]; omega
    · obtain rfl : j = n := by omega
      go_wp2
      go_ret
      exact ⟨rfl, hM.out.done.1, hM.out.done.2, hM.out.2⟩
set_option maxHeartbeats 2000000 in
theorem heldTreeNodeS_any (v : Value) (B n : Nat) (k0 : Int) (w : World) (h : Row w B 4 n (fun p => k0 + (p : Nat)) v) (hn : n ≤ 1048576) (hk0 : 0 ≤ k0) (hk1 : k0 ≤ 100000000) :
    Calls Try.prog 37 #[v, .int .i64 k0] w fun e w' => e = .returned (.int .i64 (k0 + n * 4)) ∧ w' = w := by
  obtain ⟨ao, cp, rfl⟩ := h.form
  have H0 : Hid (Row w B 4 n (fun p => k0 + (p : Nat)) (.slice ao n cp)) := h
  clear h
  go_enter Try.func37, Try.ntmps37
  go_wp2
  go_loop [1, 5] (fun k i => ∃ j : Nat, j ≤ n ∧ i = .int .i64 j ∧ k = .int .i64 (k0 + j * 4)) (fun _ i => n - (intOf i).toNat)
  case atStart => exact ⟨0, Nat.zero_le _, rfl, by go_num⟩
  case round =>
    obtain ⟨j, hj, rfl, rfl⟩ := hrel
    by_cases hlt : j < n
    · obtain ⟨g, o, rfl, _, _, c0, c1, c2, c3⟩ := H0.out.at4 hlt
      rw [show k0 + ((j * 4 : Nat) : Int) = k0 + j * 4 from by omega] at c0
      rw [show k0 + ((j * 4 + 1 : Nat) : Int) = k0 + j * 4 + 1 from by omega] at c1
      rw [show k0 + ((j * 4 + 2 : Nat) : Int) = k0 + j * 4 + 1 + 1 from by omega] at c2
      rw [show k0 + ((j * 4 + 3 : Nat) : Int) = k0 + j * 4 + 1 + 1 + 1 from by omega] at c3
      go_wp2
      go_round
      case rel => exact ⟨j + 1, by omega, by go_num, by go_num⟩
      case measure => simp [intOf]; omega
    · obtain rfl : j = n := by omega
      go_wp2
      go_ret
      exact ⟨rfl, rfl⟩
set_option maxHeartbeats 1000000 in
theorem markTreeNodeS_none (ao : Option Addr) (cp : Nat) (k0 : Int) (w : World) :
    Calls Try.prog 36 #[.slice ao 0 cp, .int .i64 k0] w fun e w' => e = .returned (.int .i64 k0) ∧ w' = w := by
  go_enter Try.func36, Try.ntmps36
  go_wp2
  go_loop [1, 5] (fun k i => i = .int .i64 0 ∧ k = .int .i64 k0) (fun _ i => 1 - (intOf i).toNat)
  case atStart => exact ⟨rfl, rfl⟩
  case round =>
    obtain ⟨rfl, rfl⟩ := hrel
    go_wp2
    go_ret
    exact ⟨rfl, rfl⟩
theorem markTreeNodeS_turn (v : Value) (B n : Nat) (F : Nat → Int) (k0 : Int) (w : World) (h : Row w B 4 n F v) (hf : Free w (n * 4) v) (hn : n ≤ 1048576) (hk0 : 0 ≤ k0) (hk1 : k0 ≤ 100000000) :
    Calls Try.prog 36 #[v, .int .i64 k0] w fun e w' => e = .returned (.int .i64 (k0 + n * 4)) ∧ Row w' B 4 n (fun p => k0 + (p : Nat)) v ∧ Free w' (n * 4) v ∧ w.grownBy w' (turn n v) := by
  rcases Nat.eq_zero_or_pos n with e | e
  · subst e
    obtain ⟨ao, cp, rfl⟩ := h.form
    refine (markTreeNodeS_none ao cp k0 w).mono fun e w' ⟨he, hw⟩ => ?_
    subst hw
    exact ⟨by rw [he]; simp, ⟨_, _, rfl, fun q => absurd q (Nat.lt_irrefl 0)⟩, hf, rfl, rfl, rfl, Nat.le_refl _, fun _ _ _ => rfl⟩
  · refine (markTreeNodeS_any v B n F k0 w h hf hn hk0 hk1).mono fun e' w' ⟨he, h1, h2, h3⟩ => ⟨he, h1, h2, ?_⟩
    unfold turn
    rw [if_neg (by omega)]
    exact h3
set_option maxHeartbeats 1000000 in
theorem eqTreeResult_same (c : Int) (n : Nat) (a b : Option Addr) (p q : Nat) (Ba Bb : Nat) (F : Nat → Int) (w : World) (ha : Row w Ba 4 n F (.slice a n p)) (hb : Row w Bb 4 n F (.slice b n q)) (hn : n ≤ 1048576) :
    Calls Try.prog 13 #[.agg #[.int .i64 c, .slice a n p], .agg #[.int .i64 c, .slice b n q]] w fun e w' => e = .returned (.bool true) ∧ Below w.heap.size w w' := by
  have HA : Hid (Row w Ba 4 n F (.slice a n p) ∧ Row w Bb 4 n F (.slice b n q)) := ⟨ha, hb⟩
  clear ha hb
  go_enter Try.func13, Try.ntmps13
  go_wp2_with fail
  refine (eqTreeNodeS_same _ _ Ba Bb n F _ ((HA.out.1.alloc _).alloc _) ((HA.out.2.alloc _).alloc _) hn).mono ?_
  rintro e w1 ⟨rfl, q1⟩
  have Q : Hid (Below w.heap.size w w1) := ((below_alloc _ _).alloc (by simp) _).trans (q1.mono (by simp; omega))
  clear q1
  go_wp2
  go_ret
  exact ⟨rfl, Q.out⟩
set_option maxHeartbeats 1000000 in
theorem markTreeResult_any (c : Int) (n : Nat) (a : Option Addr) (p : Nat) (B : Nat) (F : Nat → Int) (w : World) (h : Row w B 4 n F (.slice a n p)) (hf : Free w (n * 4) (.slice a n p)) (hn : n ≤ 1048576) :
    Calls Try.prog 15 #[.agg #[.int .i64 c, .slice a n p], .int .i64 1] w fun e w' => e = .returned (.int .i64 (1 + n * 4)) ∧ Row w' B 4 n (fun p => 1 + (p : Nat)) (.slice a n p) ∧ w.grownBy w' (turn n (.slice a n p)) := by
  have HA : Hid (Row w B 4 n F (.slice a n p) ∧ Free w (n * 4) (.slice a n p)) := ⟨h, hf⟩
  clear h hf
  go_enter Try.func15, Try.ntmps15
  go_wp2_with fail
  refine (markTreeNodeS_turn _ B n F 1 _ (HA.out.1.alloc _) (HA.out.2.ofRow HA.out.1 (below_alloc _ _)) hn (by omega) (by omega)).mono ?_
  rintro e w1 ⟨rfl, r1, _, g1⟩
  have Q : Hid (w.grownBy w1 (turn n (.slice a n p))) := ⟨g1.os, g1.tape, g1.output, Nat.le_trans (by simp) g1.size, fun k hk hne => (g1.block k (by simp; omega) hne).trans ((below_alloc w _).block k hk)⟩
  have R : Hid (Row w1 B 4 n (fun p => 1 + (p : Nat)) (.slice a n p)) := r1
  clear r1 g1
  go_wp2
  go_ret
  exact ⟨rfl, R.out, Q.out⟩
set_option maxHeartbeats 1000000 in
theorem heldTreeResult_any (c : Int) (n : Nat) (a : Option Addr) (p : Nat) (B : Nat) (w : World) (h : Row w B 4 n (fun p => 1 + (p : Nat)) (.slice a n p)) (hn : n ≤ 1048576) :
    Calls Try.prog 16 #[.agg #[.int .i64 c, .slice a n p], .int .i64 1] w fun e w' => e = .returned (.int .i64 (1 + n * 4)) ∧ Below w.heap.size w w' := by
  have HA : Hid (Row w B 4 n (fun p => 1 + (p : Nat)) (.slice a n p)) := h
  clear h
  go_enter Try.func16, Try.ntmps16
  go_wp2_with fail
  refine (heldTreeNodeS_any _ B n 1 _ (HA.out.alloc _) hn (by omega) (by omega)).mono ?_
  rintro e w1 ⟨rfl, rfl⟩
  have hnn : decide ((1 : Int) + n * 4 < 0) = false := decide_eq_false (by omega)
  go_wp2
  go_ret
  exact ⟨rfl, below_alloc _ _⟩
end Go.Proofs.Ytokaoiiibakkoaa

namespace Go.Proofs.Ytokaoiiibakkoaa
open Go.RowKit
/-- The first answer stands: its box, its list, and all that was there ahead of it. -/
def ET (X0 : World) (b6 : Nat) (c : Int) (N : Nat) (xs : List Int) (vr : Value) (X : World) : Prop := Below X0.heap.size X0 X ∧ Blk2 X b6 (.int .i64 c) vr ∧ OwnM X X0.heap.size 85 4 vr N xs
theorem ET.later {X0 X X' : World} {b6 : Nat} {c : Int} {N : Nat} {xs : List Int} {vr : Value} (h : ET X0 b6 c N xs vr X) (hb : Below X.heap.size X X') : ET X0 b6 c N xs vr X' := ⟨h.1.trans (hb.mono h.1.size), h.2.1.later hb, h.2.2.later hb⟩
theorem ET.within {X0 X X' : World} {b6 B E : Nat} {c : Int} {N : Nat} {xs : List Int} {vr : Value} (h : ET X0 b6 c N xs vr X) (hw : Within B E X X') (h0 : X0.heap.size ≤ B) (h6 : b6 < B) (h1 : ∀ k, vr.ownBlock = some k → k < B) : ET X0 b6 c N xs vr X' := by
  have hi := h.2.2
  exact ⟨hw.below h.1 h0, h.2.1.kept (hw.block _ h.2.1.lt (Or.inl h6)), OwnM.keptB hi (fun k hk => hw.block k (OwnM.block hi k hk).2 (Or.inl (h1 k hk)))⟩
set_option maxRecDepth 100000 in
set_option maxHeartbeats 4000000 in
theorem treeOf_walk (v0 : Value) (n : Nat) (F : Nat → Int) (w : World) (h : Row w 0 2 n F v0) (hn : n ≤ 9223372036854775807) :
    Calls Try.prog 4 #[v0] w fun e w' => e = .returned (.bool true) ∧ Below w.heap.size w w' := by
  obtain ⟨ao, cp, rfl⟩ := h.form
  by_cases hs : (1048576 : Int) < n
  · go_enter Try.func4, Try.ntmps4
    go_wp2_with fail
    refine (szPairS_no _ _ _ _ _ hs (by omega) (by omega) hn).mono ?_
    rintro e w1 ⟨rfl, rfl⟩
    go_wp2
    go_ret
    exact ⟨rfl, Below.refl _ _⟩
  have hb : n ≤ 1048576 := by omega
  have dz : decide ((1048576 : Int) - n < 0) = false := decide_eq_false (by omega)
  obtain ⟨c, N, xs, ha, hx⟩ := TreAns.get n F
  have HSP : Hid (∀ u X, Row X 0 2 n F u → Calls Try.prog 11 #[u] X (ResTree X c N xs)) := fun u X hu => specTree_is u 0 n F c N xs X hu hb ha
  have HIM : Hid (∀ u X, Row X 0 2 n F u → Calls Try.prog 12 #[u] X (ResTree X c N xs)) := fun u X hu => implTree_is u 0 n F c N xs X hu hb ha
  have hnn : decide ((1 : Int) + N * 4 < 0) = false := decide_eq_false (by omega)
  have H : Hid (Row w 0 2 n F (.slice ao n cp)) := h
  have hx1 : N ≤ 1048576 := by omega
  clear h hs ha hx
  go_enter Try.func4, Try.ntmps4
  go_wp2_with fail
  refine (szPairS_ok _ _ _ _ _ (by omega) (by omega)).mono ?_
  rintro e w1 ⟨rfl, hw1⟩
  obtain rfl := hw1.symm
  go_wp2_with fail
  refine (toPairS_any _ 0 n F _ H.out hb).mono ?_
  rintro e z1 ⟨u1, rfl, r1, _, q1⟩
  have A1 : Hid (Row z1 0 2 n F u1 ∧ Below w.heap.size w z1) := ⟨r1.mono (Nat.zero_le _), q1⟩
  clear r1 q1
  go_wp2_with fail
  refine (HSP.out _ _ A1.out.1).mono ?_
  rintro e z2 ⟨vs, rfl, i2, q2⟩
  obtain ⟨s1, s2, rfl⟩ := i2.form
  have hz2 : w.heap.size ≤ z2.heap.size := Nat.le_trans A1.out.2.size q2.size
  have E0 : Hid (ET w z2.heap.size c N xs (.slice s1 N s2) (z2.alloc (.cells #[.int .i64 c, .slice s1 N s2] 31))) := ⟨(A1.out.2.trans (q2.mono A1.out.2.size)).alloc hz2 _, Blk2.new _ _ _ _, OwnM.later (OwnM.monoP i2 A1.out.2.size) (below_alloc _ _)⟩
  have N6 : Hid (w.heap.size ≤ (z2.alloc (.cells #[.int .i64 c, .slice s1 N s2] 31)).heap.size ∧ z2.heap.size < (z2.alloc (.cells #[.int .i64 c, .slice s1 N s2] 31)).heap.size ∧ ∀ k, (Value.slice s1 N s2).ownBlock = some k → k < (z2.alloc (.cells #[.int .i64 c, .slice s1 N s2] 31)).heap.size) := ⟨by simp; omega, by simp, fun k hk => by have := (OwnM.block i2 k hk).2; simp; omega⟩
  clear i2 q2 A1 hz2
  go_wp2_with fail
  generalize z2.alloc (.cells #[.int .i64 c, .slice s1 N s2] 31) = wc at E0 N6 ⊢
  refine (toPairS_any _ 0 n F _ (H.out.later E0.out.1) hb).mono ?_
  rintro e w2 ⟨u2, rfl, r2, f2, q2⟩
  have R2 : Hid (Row w2 wc.heap.size 2 n F u2 ∧ Free w2 (n * 2) u2) := ⟨r2, f2⟩
  have L2 : Hid (0 < n → ∀ k, u2.ownBlock = some k → wc.heap.size ≤ k ∧ k < w2.heap.size) := fun h0 k hk => r2.lt h0 k hk
  have Ea : Hid (ET w z2.heap.size c N xs (.slice s1 N s2) w2) := E0.out.later q2
  have Na : Hid (wc.heap.size ≤ w2.heap.size) := q2.size
  clear r2 f2 q2 E0
  go_wp2_with fail
  refine (HIM.out _ _ (R2.out.1.mono (Nat.zero_le _))).mono ?_
  rintro e w4 ⟨vr, rfl, hA, q4⟩
  obtain ⟨t1, t2, rfl⟩ := hA.form
  have q4' := q4.alloc q4.size (.cells #[.int .i64 c, .slice t1 N t2] 31)
  have Nc : Hid (w2.heap.size ≤ w4.heap.size ∧ ∀ k, (Value.slice t1 N t2).ownBlock = some k → w2.heap.size ≤ k ∧ k < w4.heap.size) := ⟨q4.size, fun k hk => OwnM.block hA k hk⟩
  have Ec : Hid (ET w z2.heap.size c N xs (.slice s1 N s2) (w4.alloc (.cells #[.int .i64 c, .slice t1 N t2] 31))) := Ea.out.later q4'
  have Rc : Hid (Row (w4.alloc (.cells #[.int .i64 c, .slice t1 N t2] 31)) wc.heap.size 2 n F u2 ∧ Free (w4.alloc (.cells #[.int .i64 c, .slice t1 N t2] 31)) (n * 2) u2) := ⟨R2.out.1.later q4', R2.out.2.ofRow R2.out.1 q4'⟩
  have Gc : Hid (Blk2 (w4.alloc (.cells #[.int .i64 c, .slice t1 N t2] 31)) w4.heap.size (.int .i64 c) (.slice t1 N t2) ∧ OwnM (w4.alloc (.cells #[.int .i64 c, .slice t1 N t2] 31)) w2.heap.size 85 4 (.slice t1 N t2) N xs) := ⟨Blk2.new _ _ _ _, hA.later (below_alloc _ _)⟩
  clear q4 q4' hA Ea R2
  obtain ⟨⟨a0, a1⟩, _⟩ := Ec.out.2.1
  have hlt : z2.heap.size < w4.heap.size := by have := N6.out.2.1; have := Na.out; have := Nc.out.1; omega
  go_wp2_with fail
  refine (eqTreeResult_same c N _ _ _ _ w2.heap.size w.heap.size (fun p => xs.getD p 0) _ (OwnM.rowL (Gc.out.2)).1 (OwnM.rowL (Ec.out.2.2)).1 hx1).mono ?_
  rintro e w5 ⟨rfl, q5⟩
  have Ed : Hid (ET w z2.heap.size c N xs (.slice s1 N s2) w5) := Ec.out.later q5
  have Rd : Hid (Row w5 wc.heap.size 2 n F u2 ∧ Free w5 (n * 2) u2) := ⟨Rc.out.1.later q5, Rc.out.2.ofRow Rc.out.1 q5⟩
  have Gd : Hid (Blk2 w5 w4.heap.size (.int .i64 c) (.slice t1 N t2) ∧ OwnM w5 w2.heap.size 85 4 (.slice t1 N t2) N xs) := ⟨Gc.out.1.later q5, Gc.out.2.later q5⟩
  clear q5 Ec Rc Gc a0 a1 hlt
  go_wp2_with fail
  refine (toPairS_any _ 0 n F _ (H.out.later Ed.out.1) hb).mono ?_
  rintro e w6 ⟨u6, rfl, r6, _, q6⟩
  have Ee : Hid (ET w z2.heap.size c N xs (.slice s1 N s2) w6) := Ed.out.later q6
  have Re : Hid ((Row w6 wc.heap.size 2 n F u2 ∧ Free w6 (n * 2) u2) ∧ Row w6 0 2 n F u6) := ⟨⟨Rd.out.1.later q6, Rd.out.2.ofRow Rd.out.1 q6⟩, r6.mono (Nat.zero_le _)⟩
  have Ge : Hid (Blk2 w6 w4.heap.size (.int .i64 c) (.slice t1 N t2) ∧ OwnM w6 w2.heap.size 85 4 (.slice t1 N t2) N xs) := ⟨Gd.out.1.later q6, Gd.out.2.later q6⟩
  clear q6 r6 Ed Rd Gd
  go_wp2_with fail
  refine (eqPairS_same _ _ _ 0 n F _ Re.out.1.1 Re.out.2 hb).mono ?_
  rintro e w7 ⟨rfl, q7⟩
  have Ef : Hid (ET w z2.heap.size c N xs (.slice s1 N s2) w7) := Ee.out.later q7
  have Rf : Hid (Row w7 wc.heap.size 2 n F u2 ∧ Free w7 (n * 2) u2) := ⟨Re.out.1.1.later q7, Re.out.1.2.ofRow Re.out.1.1 q7⟩
  have Gf : Hid (Blk2 w7 w4.heap.size (.int .i64 c) (.slice t1 N t2) ∧ OwnM w7 w2.heap.size 85 4 (.slice t1 N t2) N xs) := ⟨Ge.out.1.later q7, Ge.out.2.later q7⟩
  clear q7 Ee Re Ge
  have hkk : decide ((1 : Int) + n * 2 < 0) = false := decide_eq_false (by omega)
  go_wp2_with fail
  refine (markPairS_turn _ _ n F 1 _ Rf.out.1 Rf.out.2 hb (by omega) (by omega)).mono ?_
  rintro e w8 ⟨rfl, _, _, g8⟩
  have W8 : Within wc.heap.size w2.heap.size w7 w8 := Within.of g8 (turn_off L2.out)
  have Eg : Hid (ET w z2.heap.size c N xs (.slice s1 N s2) w8) := Ef.out.within W8 N6.out.1 N6.out.2.1 N6.out.2.2
  have Gg : Hid (Blk2 w8 w4.heap.size (.int .i64 c) (.slice t1 N t2) ∧ OwnM w8 w2.heap.size 85 4 (.slice t1 N t2) N xs) := by
    have hi := Gf.out.2
    exact ⟨Gf.out.1.kept (W8.block _ Gf.out.1.lt (Or.inr Nc.out.1)), OwnM.keptB hi (fun k hk => W8.block k (OwnM.block hi k hk).2 (Or.inr (OwnM.block hi k hk).1))⟩
  clear W8 g8 Ef Rf Gf
  obtain ⟨⟨a0, a1⟩, _⟩ := Eg.out.2.1
  obtain ⟨⟨g0, g1⟩, _⟩ := Gg.out.1
  go_wp2_with fail
  refine (eqTreeResult_same c N _ _ _ _ w2.heap.size w.heap.size (fun p => xs.getD p 0) _ (OwnM.rowL (Gg.out.2)).1 (OwnM.rowL (Eg.out.2.2)).1 hx1).mono ?_
  rintro e w9 ⟨rfl, q9⟩
  have Eh : Hid (ET w z2.heap.size c N xs (.slice s1 N s2) w9) := Eg.out.later q9
  have Gh : Hid (Blk2 w9 w4.heap.size (.int .i64 c) (.slice t1 N t2) ∧ OwnM w9 w2.heap.size 85 4 (.slice t1 N t2) N xs) := ⟨Gg.out.1.later q9, Gg.out.2.later q9⟩
  clear q9 Eg Gg a0 a1 g0 g1
  obtain ⟨⟨g0, g1⟩, _⟩ := Gh.out.1
  go_wp2_with fail
  refine (markTreeResult_any c N _ _ w2.heap.size (fun p => xs.getD p 0) _ (OwnM.rowL (Gh.out.2)).1 (OwnM.rowL (Gh.out.2)).2 hx1).mono ?_
  rintro e w10 ⟨rfl, hn10, g10⟩
  have W10 : Within w2.heap.size w4.heap.size w9 w10 := Within.of g10 (turn_off (fun _ k hk => Nc.out.2 k hk))
  have Ei : Hid (ET w z2.heap.size c N xs (.slice s1 N s2) w10) := Eh.out.within W10 (Nat.le_trans N6.out.1 Na.out) (Nat.lt_of_lt_of_le N6.out.2.1 Na.out) (fun k hk => Nat.lt_of_lt_of_le (N6.out.2.2 k hk) Na.out)
  have Gi : Hid (Blk2 w10 w4.heap.size (.int .i64 c) (.slice t1 N t2) ∧ Row w10 w2.heap.size 4 N (fun p => 1 + (p : Nat)) (.slice t1 N t2)) := ⟨Gh.out.1.kept (W10.block _ Gh.out.1.lt (Or.inr (Nat.le_refl _))), hn10⟩
  clear hn10 g10 W10 Eh Gh g0 g1
  obtain ⟨⟨g0, g1⟩, _⟩ := Gi.out.1
  go_wp2_with fail
  refine (heldTreeResult_any c N _ _ w2.heap.size _ Gi.out.2 hx1).mono ?_
  rintro e w11 ⟨rfl, q11⟩
  have Ej : Hid (ET w z2.heap.size c N xs (.slice s1 N s2) w11) := Ei.out.later q11
  have Gj : Hid (Blk2 w11 w4.heap.size (.int .i64 c) (.slice t1 N t2) ∧ Row w11 w2.heap.size 4 N (fun p => 1 + (p : Nat)) (.slice t1 N t2)) := ⟨Gi.out.1.later q11, Gi.out.2.later q11⟩
  clear q11 Ei Gi g0 g1
  go_wp2_with fail
  refine (toPairS_any _ 0 n F _ (H.out.later Ej.out.1) hb).mono ?_
  rintro e y1 ⟨u3, rfl, r3, _, q3⟩
  have Ek : Hid (ET w z2.heap.size c N xs (.slice s1 N s2) y1) := Ej.out.later q3
  have Gk : Hid (Blk2 y1 w4.heap.size (.int .i64 c) (.slice t1 N t2) ∧ Row y1 w2.heap.size 4 N (fun p => 1 + (p : Nat)) (.slice t1 N t2)) := ⟨Gj.out.1.later q3, Gj.out.2.later q3⟩
  have R3 : Hid (Row y1 0 2 n F u3) := r3.mono (Nat.zero_le _)
  clear q3 r3 Ej Gj
  go_wp2_with fail
  refine (HIM.out _ _ R3.out).mono ?_
  rintro e y2 ⟨vq, rfl, hQ, q⟩
  obtain ⟨p1, p2, rfl⟩ := hQ.form
  have q' := q.alloc q.size (.cells #[.int .i64 c, .slice p1 N p2] 31)
  have El : Hid (ET w z2.heap.size c N xs (.slice s1 N s2) (y2.alloc (.cells #[.int .i64 c, .slice p1 N p2] 31))) := Ek.out.later q'
  have Gl : Hid (Blk2 (y2.alloc (.cells #[.int .i64 c, .slice p1 N p2] 31)) w4.heap.size (.int .i64 c) (.slice t1 N t2) ∧ Row (y2.alloc (.cells #[.int .i64 c, .slice p1 N p2] 31)) w2.heap.size 4 N (fun p => 1 + (p : Nat)) (.slice t1 N t2)) := ⟨Gk.out.1.later q', Gk.out.2.later q'⟩
  have QQ : Hid (OwnM (y2.alloc (.cells #[.int .i64 c, .slice p1 N p2] 31)) y1.heap.size 85 4 (.slice p1 N p2) N xs) := hQ.later (below_alloc _ _)
  have hlt : z2.heap.size < y2.heap.size := Nat.lt_of_lt_of_le Ek.out.2.1.lt q.size
  clear q q' hQ R3 Ek Gk
  obtain ⟨⟨a0, a1⟩, _⟩ := El.out.2.1
  go_wp2_with fail
  refine (eqTreeResult_same c N _ _ _ _ y1.heap.size w.heap.size (fun p => xs.getD p 0) _ (OwnM.rowL (QQ.out)).1 (OwnM.rowL (El.out.2.2)).1 hx1).mono ?_
  rintro e w12 ⟨rfl, q12⟩
  have Em : Hid (Below w.heap.size w w12) := El.out.1.trans (q12.mono El.out.1.size)
  have Gm : Hid (Blk2 w12 w4.heap.size (.int .i64 c) (.slice t1 N t2) ∧ Row w12 w2.heap.size 4 N (fun p => 1 + (p : Nat)) (.slice t1 N t2)) := ⟨Gl.out.1.later q12, Gl.out.2.later q12⟩
  clear q12 El Gl QQ a0 a1 hlt
  obtain ⟨⟨g0, g1⟩, _⟩ := Gm.out.1
  go_wp2_with fail
  refine (heldTreeResult_any c N _ _ w2.heap.size _ Gm.out.2 hx1).mono ?_
  rintro e w13 ⟨rfl, q13⟩
  have HE : Hid (Below w.heap.size w w13) := Em.out.trans (q13.mono Em.out.size)
  clear q13 Em Gm g0 g1
  go_wp2
  go_ret
  exact ⟨rfl, HE.out⟩
end Go.Proofs.Ytokaoiiibakkoaa

