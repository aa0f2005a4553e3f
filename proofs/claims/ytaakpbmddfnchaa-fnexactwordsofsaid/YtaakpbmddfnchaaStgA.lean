/-
  Own text. Rows of strings that a call made: plain facts on memory, and what the laws' helpers do with them (markText, eqStringS, markStringS, heldStringS).
-/
import Derived.Test.YtaakpbmddfnchaaIntsA
import Derived.Laws.IdiomStrings
import Derived.Laws.Concat
import Derived.Deep.RegionHeld
import Derived.Maps.AppendAt
namespace Go.Proofs.Ytaakpbmddfnchaa
open Go.RowKit

theorem info_str : (Try.prog.info? 9).map (fun i => (i.zero, i.size, i.bytes)) = some (some (.string ⟨#[]⟩), 1, 16) := by kernel_rfl
/-- A row of strings that the call made, in new memory. -/
def Stgs (w : World) (base : Nat) (v : Value) (xs : List ByteArray) : Prop := w.ownsRow base 9 1 v xs.length (xs.map Value.string)
theorem Stgs.at {w : World} {B : Nat} {ao : Option Addr} {cp : Nat} {xs : List ByteArray} (h : Stgs w B (.slice ao xs.length cp) xs) {k : Nat} (hk : k < xs.length) :
    ∃ g, ao = some ⟨g, 0, none⟩ ∧ B ≤ g ∧ g < w.heap.size ∧ w.cell? ⟨g, k, none⟩ = some (.string xs[k]) ∧ w.frozen? ⟨g, k, none⟩ = false := by
  have h0 := h
  have hl := World.ownsRow.lt h0
  obtain ⟨_, ⟨hv, hn⟩ | ⟨g, cap, cur, hv, hg, _⟩⟩ := h
  · omega
  · simp only [Value.slice.injEq] at hv
    obtain ⟨rfl, _, rfl⟩ := hv
    refine ⟨g, rfl, hg, (hl g rfl).2, ?_, World.ownsRow.frozenAt h0 k⟩
    rw [World.ownsRow.cellAt h0 k (by omega)]
    simp [hk]
theorem Stgs.form {w : World} {B : Nat} {v : Value} {xs : List ByteArray} (h : Stgs w B v xs) : ∃ ao cp, v = .slice ao xs.length cp := ownsRow_form h
theorem row_later {w w' : World} {B : Nat} {e : TypeId} {m : Nat} {v : Value} {n : Nat} {xs : List Value} (h : w.ownsRow B e m v n xs) (hb : Below w.heap.size w w') : w'.ownsRow B e m v n xs := by
  obtain ⟨h1, h2⟩ := h
  refine ⟨h1, ?_⟩
  rcases h2 with h2 | ⟨g, cap, cur, hv, hg, hh, r⟩
  · exact Or.inl h2
  · have hlt : g < w.heap.size := by
      rcases Nat.lt_or_ge g w.heap.size with h | h
      · exact h
      · rw [Array.getElem?_eq_none h] at hh; cases hh
    exact Or.inr ⟨g, cap, cur, hv, hg, (hb.block g hlt).trans hh, r⟩
theorem Stgs.later {w w' : World} {B : Nat} {v : Value} {xs : List ByteArray} (h : Stgs w B v xs) (hb : Below w.heap.size w w') : Stgs w' B v xs := row_later h hb
theorem Stgs.alloc {w : World} {B : Nat} {v : Value} {xs : List ByteArray} (h : Stgs w B v xs) (o : Obj) : Stgs (w.alloc o) B v xs := World.ownsRow.alloc h o
theorem Stgs.mono {w : World} {B B' : Nat} {v : Value} {xs : List ByteArray} (h : Stgs w B v xs) (hb : B' ≤ B) : Stgs w B' v xs := World.ownsRow.mono h hb
theorem Stgs.lt {w : World} {B : Nat} {v : Value} {xs : List ByteArray} (h : Stgs w B v xs) : ∀ k, v.ownBlock = some k → B ≤ k ∧ k < w.heap.size := World.ownsRow.lt h
theorem Stgs.grown {w w' : World} {B : Nat} {v : Value} {xs : List ByteArray} (h : Stgs w B v xs) {row : Option Nat} (hg : w.grownBy w' row) (hne : ∀ k, v.ownBlock = some k → row ≠ some k) : Stgs w' B v xs :=
  World.ownsRow.kept h hg (by
    cases hv : v.ownBlock with
    | none => exact Or.inl rfl
    | some k => exact Or.inr (fun e => hne k hv e.symm))
theorem Stgs.set {w : World} {B : Nat} {v : Value} {xs : List ByteArray} (h : Stgs w B v xs) {c : Nat} (hc : ∀ k, v.ownBlock = some k → k ≠ c) (j : Nat) (u : Value) : Stgs (w.setCell ⟨c, j, none⟩ u) B v xs := by
  obtain ⟨h1, h2⟩ := h
  refine ⟨h1, ?_⟩
  rcases h2 with q | ⟨g, cap, cur, rfl, q1, q2, q3⟩
  · exact Or.inl q
  · exact Or.inr ⟨g, cap, cur, rfl, q1, (Below.heap_setCell w _ u g (hc g rfl)).trans q2, q3⟩
theorem Stgs.nil (w : World) (B : Nat) : Stgs w B (.slice none 0 0) [] := World.ownsRow_nil w B _ 1
theorem Stgs.lit0 (w : World) : Stgs (w.alloc (.cells #[] 9)) w.heap.size (.slice (some ⟨w.heap.size, 0, none⟩) 0 0) [] :=
  World.ownsRow_lit w #[] 0 (Nat.le_refl _) (Nat.zero_le _) (by simp)
theorem one_new (w : World) (x : Value) (t : TypeId) : ∀ j u, [x][j]? = some u → (w.alloc (.cells #[x] t)).cell? ((⟨w.heap.size, 0, none⟩ : Addr).add j) = some u := by
  intro j u hu
  match j, hu with
  | 0, hu =>
    simp at hu
    subst hu
    rw [Addr.add_lit]
    exact World.cell?_alloc_mark w _ _ _ 0
  | (j + 1), hu => simp at hu
/-- An append of one string that lies in a block of its own. -/
theorem wpList_appS {ops : Array Oper} {rest : List Oper} {o : Oper} {a : Act} {Q : Exit → Act → World → Prop} (hgd : o.guard = none) (s x : Operand) (ho : o.op = .call { callee := .builtin .append, args := #[s, x], argTypes := #[22, 22] })
    (w : World) (base : Nat) (xs : List ByteArray) (v : Value) (hs : a.eval s = v) (y : ByteArray) (hown : Stgs w base v xs) (hx : a.eval x = .slice (some ⟨w.heap.size, 0, none⟩) 1 1) (hn : xs.length ≤ 4000000) (hbase : base ≤ w.heap.size)
    (h : ∀ v' w', Stgs w' base v' (xs ++ [y]) → (w.alloc (.cells #[.string y] 9)).grownBy w' v.ownBlock → (v'.ownBlock = v.ownBlock ∨ v'.ownBlock = some (w.heap.size + 1)) → wpList Try.prog ops Q rest (a.put o.dst v') w') : wpList Try.prog ops Q (o :: rest) a (w.alloc (.cells #[.string y] 9)) := by
  obtain ⟨i0, hi, hz0, hz1, hz2⟩ := info_parts info_str
  refine wpList_plain hgd fun K hK => ?_
  obtain ⟨v', w', hr, h2, h3, _, h5⟩ := run_append_own_at (P := Try.prog) _ base 22 o.type 9 i0 (.string ⟨#[]⟩) 1 16 Try.underlying22 hi hz0 hz1 hz2 rfl (by decide) v xs.length (xs.map Value.string) (World.ownsRow.alloc hown (.cells #[.string y] 9)) ⟨w.heap.size, 0, none⟩ 1 1 [.string y] rfl (one_new _ _ _) (by intro u hu; simp at hu; subst hu; rfl) (by unfold maxLen; omega) (by omega) (by simp; omega)
  unfold Oper.wp execOp
  simp only [ho, resolve, invoke, builtin, Sem.run_bind, Sem.run_pure, Result.andThen_ok, List.map_toArray, List.map_cons, List.map_nil, hs, hx, hr]
  refine hK _ _ (h v' w' ?_ h3 (by simpa using h5))
  unfold Stgs
  rw [List.length_append, List.map_append]
  exact h2

theorem conv_oneS (v : Int) (w : World) : (convert 40 9 (.slice (some ⟨w.heap.size, 0, none⟩) 1 1)).run Try.prog (w.alloc (.cells #[.int .u8 v] 5)) = .ok (.string ⟨#[UInt8.ofNat v.toNat]⟩) (w.alloc (.cells #[.int .u8 v] 5)) := by
  rw [run_convert_bytes_string _ 40 9 5 _ 1 1 Try.underlying40 Try.underlying5 Try.underlying9]
  have hl := run_loadCells_list (P := Try.prog) (w.alloc (.cells #[.int .u8 v] 5)) ⟨w.heap.size, 0, none⟩ [.int .u8 v] (fun j x hj => by
    have hj0 : j = 0 := by
      have := (List.getElem?_eq_some_iff.1 hj).1
      simpa using this
    subst hj0
    have hx : Value.int .u8 v = x := by simpa using hj
    subst hx
    exact World.cell?_alloc_mark w _ _ _ 0)
  rw [run_bytesToString _ _ 1 1 [v] (by simpa using hl)]
  rfl
theorem size_one (x : UInt8) : (⟨#[x]⟩ : ByteArray).size = 1 := rfl
/-- The decimal digits of n ahead of what is there. -/
def dgs : Nat → Nat → ByteArray → ByteArray
  | 0, _, acc => acc
  | f + 1, n, acc => if n = 0 then acc else dgs f (n / 10) (⟨#[UInt8.ofNat (48 + n % 10)]⟩ ++ acc)
theorem dgs_zero (f : Nat) (acc : ByteArray) : dgs f 0 acc = acc := by
  cases f with
  | zero => rfl
  | succ f => simp [dgs]
theorem dgs_step {f n : Nat} (acc : ByteArray) (h : 0 < n) : dgs (f + 1) n acc = dgs f (n / 10) (⟨#[UInt8.ofNat (48 + n % 10)]⟩ ++ acc) := by
  rw [dgs, if_neg (by omega)]
/-- The mark of n. -/
def markT (n : Nat) : ByteArray := ⟨#[109]⟩ ++ dgs 10 n ⟨#[]⟩
set_option maxHeartbeats 1000000 in
theorem markText_int (n : Nat) (z : Int) (w : World) (hz : Hid (z = n)) (h0 : 0 < z) (h1 : z ≤ 1000000000) :
    Calls Try.prog 18 #[.int .i64 z] w fun e w' => e = .returned (.string (markT n)) ∧ Below w.heap.size w w' := by
  obtain ⟨T, hT⟩ : ∃ T, dgs 10 n ⟨#[]⟩ = T := ⟨_, rfl⟩
  have HM : Hid (markT n = ⟨#[109]⟩ ++ T) := by unfold markT; rw [hT]; rfl
  have HT : Hid (dgs 10 n ⟨#[]⟩ = T) := hT
  clear hT
  have d0 : decide (z ≤ 0) = false := decide_eq_false (by omega)
  go_enter Try.func18, Try.ntmps18
  go_wp2
  go_loopw [0, 3] (fun k out wr => ∃ (y : Int) (acc : ByteArray), k = .int .i64 y ∧ out = .string acc ∧ 0 ≤ y ∧ y ≤ 1000000000 ∧ Hid (∃ m f : Nat, y = m ∧ dgs f m acc = T ∧ m < 10 ^ f ∧ acc.size + f = 10 ∧ Below w.heap.size w wr)) (fun k _ _ => (intOf k).toNat)
  case atStart => exact ⟨z, _, rfl, rfl, by omega, h1, n, 10, hz, HT.out, by have := hz.out; omega, rfl, Below.refl _ _⟩
  case round =>
    obtain ⟨y, acc, rfl, rfl, hy0, hy1, hR⟩ := hrel
    by_cases hlt : 0 < y
    · have HN : Hid (∃ c q : Int, 0 ≤ c ∧ c ≤ 9 ∧ 0 ≤ q ∧ q < y ∧ Int.tmod y 10 = c ∧ Int.tdiv y 10 = q ∧ acc.size ≤ 10 ∧ (⟨#[UInt8.ofNat (48 + c).toNat]⟩ ++ acc : ByteArray).size ≤ 10 ∧ ∃ m f : Nat, q = m ∧ dgs f m (⟨#[UInt8.ofNat (48 + c).toNat]⟩ ++ acc) = T ∧ m < 10 ^ f ∧ (⟨#[UInt8.ofNat (48 + c).toNat]⟩ ++ acc : ByteArray).size + f = 10 ∧ Below w.heap.size w (wr.alloc (.cells #[.int .u8 (48 + c)] 5))) := by
        obtain ⟨m, f, hm, hd, hlt10, hsz, hb⟩ := hR.out
        cases f with
        | zero => simp at hlt10; omega
        | succ f =>
          rw [dgs_step acc (by omega)] at hd
          rw [Nat.pow_succ] at hlt10
          have ec : (48 + ((m % 10 : Nat) : Int)).toNat = 48 + m % 10 := by omega
          refine ⟨((m % 10 : Nat) : Int), ((m / 10 : Nat) : Int), by omega, by omega, by omega, by omega, ?_, ?_, by omega, ?_, m / 10, f, rfl, ?_, by omega, ?_, hb.alloc hb.size _⟩
          · rw [Int.tmod_eq_emod_of_nonneg (by omega)]; omega
          · rw [Int.tdiv_eq_ediv_of_nonneg (by omega)]; omega
          · rw [ByteArray.size_append, size_one]; omega
          · rw [ec]; exact hd
          · rw [ByteArray.size_append, size_one]; omega
      obtain ⟨c, q, c0, c9, q0, qy, e1, e2, sa, sb, HR⟩ := HN.out
      have kc := fun w => conv_oneS (48 + c) w
      have ka := fun w => run_string_add_sum (P := Try.prog) w ⟨#[UInt8.ofNat (48 + c).toNat]⟩ acc (by rw [size_one]; omega)
      have HS : Hid (∃ m f : Nat, q = m ∧ dgs f m (⟨#[UInt8.ofNat (48 + c).toNat]⟩ ++ acc) = T ∧ m < 10 ^ f ∧ (⟨#[UInt8.ofNat (48 + c).toNat]⟩ ++ acc : ByteArray).size + f = 10 ∧ Below w.heap.size w (wr.alloc (.cells #[.int .u8 (48 + c)] 5))) := HR
      clear HR HN hR sb sa
      go_wp2
      go_roundw
      case rel => exact ⟨q, _, rfl, rfl, q0, by omega, HS⟩
      case measure => simp [intOf]; omega
    · have HE : Hid (acc = T ∧ Below w.heap.size w wr ∧ acc.size ≤ 10) := by
        obtain ⟨m, f, hm, hd, _, hsz, hb⟩ := hR.out
        rw [show m = 0 by omega, dgs_zero] at hd
        exact ⟨hd, hb, by omega⟩
      have ka := fun w => run_string_add_sum (P := Try.prog) w ⟨#[109]⟩ acc (by have := HE.out.2.2; rw [size_one]; omega)
      go_wp2
      go_ret
      exact ⟨by rw [HM.out, ← HE.out.1]; rfl, HE.out.2.1⟩
theorem markText_any (n : Nat) (w : World) (h0 : 0 < n) (h1 : n ≤ 1000000000) :
    Calls Try.prog 18 #[.int .i64 n] w fun e w' => e = .returned (.string (markT n)) ∧ Below w.heap.size w w' :=
  markText_int n n w rfl (by omega) (by omega)
set_option maxHeartbeats 1000000 in
theorem eqStgs_any (va vb : Value) (Ba Bb : Nat) (xs : List ByteArray) (w : World) (ha : Stgs w Ba va xs) (hb : Stgs w Bb vb xs) (hl : xs.length ≤ 2000000) :
    Calls Try.prog 13 #[va, vb] w fun e w' => e = .returned (.bool true) ∧ ∃ n, w' = w.drewN n := by
  obtain ⟨ao, ca, rfl⟩ := ha.form
  obtain ⟨bo, cb, rfl⟩ := hb.form
  have HA : Hid (Stgs w Ba (.slice ao xs.length ca) xs) := ha
  have HB : Hid (Stgs w Bb (.slice bo xs.length cb) xs) := hb
  clear ha hb
  go_enter Try.func13, Try.ntmps13
  go_wp2
  go_loopw [5] (fun i wr => ∃ k m : Nat, k ≤ xs.length ∧ i = .int .i64 k ∧ wr = w.drewN m) (fun i _ => xs.length - (intOf i).toNat)
  case atStart => exact ⟨0, 0, Nat.zero_le _, rfl, rfl⟩
  case round =>
    obtain ⟨k, m, hk, rfl, rfl⟩ := hrel
    by_cases hlt : k < xs.length
    · obtain ⟨g, rfl, _, _, hc, _⟩ := HA.out.at hlt
      obtain ⟨g', rfl, _, _, hc', _⟩ := HB.out.at hlt
      obtain ⟨x, hx⟩ : ∃ x, xs[k] = x := ⟨_, rfl⟩
      rw [hx] at hc hc'
      clear hx
      go_wp2
      go_quiet (fail)
      go_wp2
      go_roundw
      case rel => exact ⟨k + 1, _, by omega, by go_num, rfl⟩
      case measure => simp [intOf]; omega
    · go_wp2
      go_ret
      exact ⟨rfl, _, rfl⟩

/-- n marks from k on. -/
def marksT (k n : Nat) : List ByteArray := (List.range n).map (fun j => markT (k + j))
theorem marksT_length (k n : Nat) : (marksT k n).length = n := by simp [marksT]
theorem marksT_get (k n i : Nat) (h : i < (marksT k n).length) : (marksT k n)[i] = markT (k + i) := by simp [marksT]
theorem marksT_step (k : Nat) (xs : List ByteArray) (i : Nat) (h : i < xs.length) : (marksT k i ++ xs.drop i).set i (markT (k + i)) = marksT k (i + 1) ++ xs.drop (i + 1) := by
  have e : xs.drop i = xs[i] :: xs.drop (i + 1) := List.drop_eq_getElem_cons h
  rw [e, List.set_append_right _ _ (by simp [marksT])]
  simp [marksT, List.range_succ]
  rw [e]; rfl
theorem trans_row {a b c : World} {row : Option Nat} (h : a.grownBy b row) (k : b.grownBy c row) : a.grownBy c row :=
  ⟨k.os.trans h.os, k.tape.trans h.tape, k.output.trans h.output, Nat.le_trans h.size k.size, fun i hi hne => (k.block i (Nat.lt_of_lt_of_le hi h.size) hne).trans (h.block i hi hne)⟩
set_option maxHeartbeats 1000000 in
theorem markStgs_any (v : Value) (B : Nat) (xs : List ByteArray) (k0 : Nat) (w : World) (h : Stgs w B v xs) (hl : xs.length ≤ 2000000) (hk0 : 0 < k0) (hk1 : k0 ≤ 1000000) :
    Calls Try.prog 14 #[v, .int .i64 k0] w fun e w' => e = .returned (.int .i64 (k0 + xs.length : Nat)) ∧ Stgs w' B v (marksT k0 xs.length) ∧ w.grownBy w' v.ownBlock := by
  obtain ⟨ao, ca, rfl⟩ := h.form
  have H0 : Hid (Stgs w B (.slice ao xs.length ca) xs) := h
  clear h
  go_enter Try.func14, Try.ntmps14
  go_wp2
  go_loopw [1, 5] (fun k i wr => ∃ n : Nat, n ≤ xs.length ∧ i = .int .i64 n ∧ k = .int .i64 (k0 + n : Nat) ∧ Hid (wr.ownsRow B 9 1 (.slice ao xs.length ca) xs.length ((marksT k0 n ++ xs.drop n).map Value.string) ∧ w.grownBy wr (Value.slice ao xs.length ca).ownBlock)) (fun _ i _ => xs.length - (intOf i).toNat)
  case atStart => exact ⟨0, Nat.zero_le _, rfl, rfl, H0.out, ⟨rfl, rfl, rfl, Nat.le_refl _, fun _ _ _ => rfl⟩⟩
  case round =>
    obtain ⟨n, hn, rfl, rfl, hR⟩ := hrel
    by_cases hlt : n < xs.length
    · have HT := fun w => markText_any (k0 + n) w (by omega) (by omega)
      go_wp2_with fail
      refine (HT _).mono ?_
      rintro e w1 ⟨rfl, b1⟩
      have hlen : (marksT k0 n ++ xs.drop n).length = xs.length := by simp [marksT]; omega
      have hO := row_later hR.out.1 b1
      have hI : Stgs w1 B (.slice ao (marksT k0 n ++ xs.drop n).length ca) (marksT k0 n ++ xs.drop n) := by unfold Stgs; rw [hlen]; exact hO
      have g1 : w.grownBy w1 (Value.slice ao xs.length ca).ownBlock := trans_row hR.out.2 ⟨b1.os, b1.tape, b1.output, b1.size, fun k hk _ => b1.block k hk⟩
      obtain ⟨g, rfl, _, _, hcx, hf⟩ := hI.at (k := n) (by omega)
      obtain ⟨u, hc⟩ : ∃ u, w1.cell? ⟨g, n, none⟩ = some u := ⟨_, hcx⟩
      clear hcx
      have hst := World.ownsRow.stored hO n (.string (markT (k0 + n)))
      have hset : ((marksT k0 n ++ xs.drop n).map Value.string).set n (.string (markT (k0 + n))) = (marksT k0 (n + 1) ++ xs.drop (n + 1)).map Value.string := by rw [← marksT_step k0 xs n hlt, List.map_set]
      rw [hset] at hst
      have HS : Hid ((w1.setCell ⟨g, n, none⟩ (.string (markT (k0 + n)))).ownsRow B 9 1 (.slice (some ⟨g, 0, none⟩) xs.length ca) xs.length ((marksT k0 (n + 1) ++ xs.drop (n + 1)).map Value.string) ∧ w.grownBy (w1.setCell ⟨g, n, none⟩ (.string (markT (k0 + n)))) (some g)) := ⟨hst.1, trans_row g1 hst.2⟩
      generalize markT (k0 + n) = tx at *
      clear hst g1 hset hI hlen hR hO b1 HT
      go_wp2
      go_roundw
      case rel => exact ⟨n + 1, by omega, by go_num, by go_num, HS⟩
      case measure => simp [intOf]; omega
    · have e : n = xs.length := by omega
      subst e
      go_wp2
      go_ret
      refine ⟨rfl, ?_, hR.out.2⟩
      have := hR.out.1
      rw [List.drop_length, List.append_nil] at this
      unfold Stgs; rw [marksT_length]; exact this

/-- What the region of heldStringS reads of a row: one cell. -/
def CellS (g k : Nat) (x : ByteArray) (w : World) : Prop := w.cell? ⟨g, k, none⟩ = some (.string x)
set_option maxRecDepth 100000 in
set_option maxHeartbeats 2000000 in
theorem heldStgs_any (v : Value) (B n : Nat) (k0 : Nat) (w : World) (h : Stgs w B v (marksT k0 n)) (hl : n ≤ 2000000) (hk0 : 0 < k0) (hk1 : k0 ≤ 1000000) :
    Calls Try.prog 15 #[v, .int .i64 k0] w fun e w' => e = .returned (.int .i64 (k0 + n : Nat)) ∧ Below w.heap.size w w' := by
  obtain ⟨ao, ca, hv⟩ := h.form
  rw [marksT_length] at hv
  subst hv
  have H0 : Hid (Stgs w B (.slice ao (marksT k0 n).length ca) (marksT k0 n)) := by unfold Hid; rw [marksT_length]; exact h
  clear h
  go_enter Try.func15, Try.ntmps15
  go_wp2
  go_loopw [1, 5] (fun k i wr => ∃ j : Nat, j ≤ n ∧ i = .int .i64 j ∧ k = .int .i64 (k0 + j : Nat) ∧ Hid (Below w.heap.size w wr)) (fun _ i _ => n - (intOf i).toNat)
  case atStart => exact ⟨0, Nat.zero_le _, rfl, rfl, Below.refl _ _⟩
  case round =>
    obtain ⟨j, hj, rfl, rfl, HB⟩ := hrel
    by_cases hlt : j < n
    · obtain ⟨g, rfl, _, hg, hc, _⟩ := (H0.out.later HB.out).at (k := j) (by rw [marksT_length]; exact hlt)
      rw [marksT_get] at hc
      have HT := fun w => markText_any (k0 + j) w (by omega) (by omega)
      generalize markT (k0 + j) = tx at *
      go_wp2_with fail
      refine wp_region_held_drew (S := CellS g j tx) (by kernel_rfl) hc (fun hS => ?_)
      refine wpAnyH_take (i := 0) (v := ?_) rfl (by kernel_rfl) (by kernel_rfl) (by kernel_rfl) (fun _ _ _ h => h) (Or.inl ⟨by kernel_rfl, ?_⟩) hS ?_
      rotate_left
      · intro wx hx
        unfold CellS at hx
        go_simp
        try with_reducible rfl
      refine wpAnyH_take (i := 1) (v := ?_) rfl (by kernel_rfl) (by kernel_rfl) (by kernel_rfl) (fun _ _ _ h => h) (Or.inl ⟨by kernel_rfl, ?_⟩) hS ?_
      rotate_left
      · intro wx hx
        unfold CellS at hx
        go_simp
        try with_reducible rfl
      refine wpAnyH_take (i := 2) (v := ?_) rfl (by kernel_rfl) (by kernel_rfl) (by kernel_rfl) (fun _ _ _ h => h) (Or.inl ⟨by kernel_rfl, ?_⟩) hS ?_
      rotate_left
      · intro wx hx
        unfold CellS at hx
        go_simp
        try with_reducible rfl
      refine wpAnyH_take (i := 3) (v := ?_) rfl (by kernel_rfl) (by kernel_rfl) (by kernel_rfl) (fun _ _ _ h => h) (Or.inl ⟨by kernel_rfl, ?_⟩) hS ?_
      rotate_left
      · intro wx hx
        unfold CellS at hx
        go_simp
        try with_reducible rfl
      refine wpAnyH_take (i := 4) (v := ?_) rfl (by kernel_rfl) (by kernel_rfl) (by kernel_rfl) (fun _ _ _ h => h) (Or.inl ⟨by kernel_rfl, ?_⟩) hS ?_
      rotate_left
      · intro wx hx
        unfold CellS at hx
        go_simp
        try with_reducible rfl
      refine wpAnyH_ready (rs := [5]) (by kernel_rfl) (by simp) ?_
      refine AllReadyH.cons rfl (fun K hK => ?_) AllReadyH.nil
      go_simp
      go_wp2_with fail
      refine (HT _).mono ?_
      rintro e w1 ⟨rfl, b1⟩
      have B1 : Hid (Below w.heap.size w w1) := (below_drewN HB.out 1).trans (b1.mono HB.out.size)
      have hS1 : CellS g j tx w1 := by
        unfold CellS at *
        rw [b1.cell (by simpa using hg)]
        exact hc
      clear b1 HB HT
      go_wp2_with fail
      refine hK.out _ _ hS1 (fun hS => ?_)
      clear hK K
      refine wpAnyH_take (i := 6) (v := ?_) rfl (by kernel_rfl) (by kernel_rfl) (by kernel_rfl) (fun _ _ _ h => h) (Or.inl ⟨by kernel_rfl, ?_⟩) hS ?_
      rotate_left
      · intro wx hx
        unfold CellS at hx
        go_simp
        try with_reducible rfl
      refine wpAnyH_done (by kernel_rfl) ?_ _
      clear hS
      go_simp
      go_wp2
      go_roundw
      case rel => exact ⟨j + 1, by omega, by go_num, by go_num, B1⟩
      case measure => simp [intOf]; omega
    · have e : j = n := by omega
      subst e
      go_wp2
      go_ret
      exact ⟨rfl, HB.out⟩
end Go.Proofs.Ytaakpbmddfnchaa
