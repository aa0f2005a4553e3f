/-
  Own text. The pieces of a text between bytes of one kind, and that those which are not empty are what strings.FieldsFunc answers where the byte is a blank: plain, no condition.
-/
import Derived.Test.YtaakpbmddfnchaaStgA
import Derived.Lib.FieldsP
import Derived.Lib.SpaceUEq
import Derived.Laws.RangeAny
namespace Go.Proofs.Ytaakpbmddfnchaa
open Go.RowKit

def emptyB : ByteArray := ⟨#[]⟩
/-- The pieces of s between bytes a, from place i on: fr is where the piece under way begins. -/
def cutG (s : ByteArray) (a : Nat) : Nat → Nat → Nat → List ByteArray → List ByteArray
  | 0, _, _, out => out
  | f + 1, i, fr, out => if i = s.size ∨ (s.get! i).toNat = a then cutG s a f (i + 1) (i + 1) (out ++ [s.extract fr i]) else cutG s a f (i + 1) fr out
def cutB (s : ByteArray) (a : Nat) : List ByteArray := cutG s a (s.size + 1) 0 0 []
def wordsB (s : ByteArray) : List ByteArray := (cutB s 32).filter (fun x => decide (x ≠ emptyB))
/-- The spans of the words, byte by byte. -/
def spB (s : ByteArray) : Nat → Nat → Option Nat → List (Nat × Nat) → List (Nat × Nat) × Option Nat
  | 0, _, st, acc => (acc, st)
  | f + 1, i, st, acc =>
    if (s.get! i).toNat = 32 then spB s f (i + 1) none (match st with | some a => acc ++ [(a, i)] | none => acc)
    else spB s f (i + 1) (some (st.getD i)) acc
theorem spB_succ (s : ByteArray) (f i : Nat) (st : Option Nat) (acc : List (Nat × Nat)) : spB s (f + 1) i st acc =
    if (s.get! i).toNat = 32 then spB s f (i + 1) none (match st with | some a => acc ++ [(a, i)] | none => acc)
    else spB s f (i + 1) (some (st.getD i)) acc := rfl
theorem spB_skip (s : ByteArray) : ∀ (k f i a : Nat) (acc : List (Nat × Nat)), (∀ j, j < k → (s.get! (i + j)).toNat ≠ 32) → spB s (f + k) i (some a) acc = spB s f (i + k) (some a) acc
  | 0, _, _, _, _, _ => rfl
  | k + 1, f, i, a, acc, h => by
    rw [show f + (k + 1) = (f + k) + 1 by omega]
    have h0 := h 0 (by omega)
    rw [Nat.add_zero] at h0
    rw [spB_succ, if_neg h0, Option.getD_some, spB_skip s k f (i + 1) a acc (fun j hj => by have := h (j + 1) (by omega); rwa [show i + 1 + j = i + (j + 1) by omega]), show i + 1 + k = i + (k + 1) by omega]
def blankP (r : Nat) : Bool := r == 32
theorem spans_spB (s : ByteArray) : ∀ (f i : Nat) (st : Option Nat) (acc : List (Nat × Nat)), i ≤ s.size → s.size ≤ i + f → Lib.spansFromP blankP s f i st acc = spB s (s.size - i) i st acc
  | 0, i, st, acc, h, hf => by
    rw [show s.size - i = 0 by omega]; rfl
  | f + 1, i, st, acc, h, hf => by
    by_cases hlt : i < s.size
    · have hat := Lib.decode_at s i
      have hc := Lib.decodeN_conts (s.size - i) (s.get! i).toNat (s.get! (i + 1)).toNat (s.get! (i + 2)).toNat (s.get! (i + 3)).toNat
      have hle := Lib.decodeN_le_n' (s.size - i) (s.get! i).toNat (s.get! (i + 1)).toNat (s.get! (i + 2)).toNat (s.get! (i + 3)).toNat (by omega)
      rw [← hat] at hc hle
      have hpos := Lib.width_pos s i
      unfold Lib.spansFromP
      rw [if_pos hlt]
      by_cases ha : (s.get! i).toNat < 128
      · have e1 : Utf8.decode s i = ((s.get! i).toNat, 1) := by rw [hat, Lib.decodeN_ascii _ _ _ _ _ ha]
        rw [e1]
        simp only
        rw [show s.size - i = (s.size - (i + 1)) + 1 by omega, spB_succ]
        by_cases h32 : (s.get! i).toNat = 32
        · rw [if_pos h32, h32]
          cases st <;> simp [blankP, spans_spB s f _ _ _ (show i + 1 ≤ s.size by omega) (by omega)]
        · rw [if_neg h32]
          have hb : blankP (s.get! i).toNat = false := by unfold blankP; exact beq_eq_false_iff_ne.2 h32
          rw [hb]
          cases st <;> simp [spans_spB s f _ _ _ (show i + 1 ≤ s.size by omega) (by omega)]
      · have hr : 128 ≤ (Utf8.decode s i).1 := by
          have hg : s.get! i = s[i]'hlt := by
            simp [ByteArray.get!, getElem!_pos, hlt]; rfl
          exact (decode_high s i hlt (by rw [← hg]; omega)).1
        have hb : blankP (Utf8.decode s i).1 = false := by unfold blankP; exact beq_eq_false_iff_ne.2 (by omega)
        rw [hb]
        obtain ⟨K, hK⟩ : ∃ K, (Utf8.decode s i).2 = K + 1 := ⟨(Utf8.decode s i).2 - 1, by omega⟩
        rw [hK] at hc hle ⊢
        have hn : ∀ j, j < K → (s.get! (i + 1 + j)).toNat ≠ 32 := by
          intro j hj
          obtain ⟨c1, c2, c3, c4⟩ := hc
          have : j = 0 ∨ j = 1 ∨ j = 2 := by omega
          rcases this with rfl | rfl | rfl
          · have := (c1 (by omega)).1
            rw [Nat.add_zero]; omega
          · have := (c2 (by omega)).1
            rw [show i + 1 + 1 = i + 2 by omega]; omega
          · have := (c3 (by omega)).1
            rw [show i + 1 + 2 = i + 3 by omega]; omega
        have hs : spB s (s.size - i) i st acc = spB s (s.size - (i + (K + 1))) (i + (K + 1)) (some (st.getD i)) acc := by
          rw [show s.size - i = ((s.size - (i + (K + 1))) + K) + 1 by omega, spB_succ, if_neg (by omega), spB_skip s K _ (i + 1) _ acc hn, show i + 1 + K = i + (K + 1) by omega]
        rw [hs]
        cases st <;> simp [spans_spB s f _ _ _ (show i + (K + 1) ≤ s.size by omega) (by omega)]
    · have : i = s.size := by omega
      subst this
      rw [Lib.spansFromP_end blankP s _ _ _ _ hlt, Nat.sub_self]; rfl
theorem ext_ne {s : ByteArray} {a b : Nat} (h : a < b) (hb : b ≤ s.size) : decide (s.extract a b ≠ emptyB) = true := by
  refine decide_eq_true fun e => ?_
  have := congrArg ByteArray.size e
  rw [ByteArray.size_extract] at this
  have e0 : emptyB.size = 0 := rfl
  omega
theorem ext_nil (s : ByteArray) (a : Nat) : decide (s.extract a a ≠ emptyB) = false := by
  refine decide_eq_false fun h => h ?_
  apply ByteArray.ext
  apply Array.eq_empty_of_size_eq_zero
  have : (s.extract a a).size = 0 := by rw [ByteArray.size_extract]; omega
  exact this
theorem spB_cut (s : ByteArray) : ∀ (f i fr : Nat) (out : List ByteArray) (acc : List (Nat × Nat)), f = s.size - i → i ≤ s.size → fr ≤ i → acc.map (fun x => s.extract x.1 x.2) = out.filter (fun x => decide (x ≠ emptyB)) →
    (Lib.closeSpans s (spB s f i (if fr < i then some fr else none) acc)).map (fun x => s.extract x.1 x.2) = (cutG s 32 (f + 1) i fr out).filter (fun x => decide (x ≠ emptyB))
  | 0, i, fr, out, acc, hf, hi, hfr, he => by
    have e : i = s.size := by omega
    subst e
    rw [cutG, if_pos (Or.inl rfl), cutG, List.filter_append]
    by_cases h : fr < s.size
    · rw [if_pos h, List.filter_cons, if_pos (ext_ne h (Nat.le_refl _))]
      simp only [spB, Lib.closeSpans, List.map_append, he]
      simp
    · have e : fr = s.size := by omega
      subst e
      rw [if_neg h, List.filter_cons, if_neg (by rw [ext_nil]; simp)]
      simp only [spB, Lib.closeSpans, he]
      simp
  | f + 1, i, fr, out, acc, hf, hi, hfr, he => by
    rw [cutG, spB_succ]
    by_cases h32 : (s.get! i).toNat = 32
    · rw [if_pos h32, if_pos (Or.inr h32)]
      by_cases h : fr < i
      · rw [if_pos h]
        have := spB_cut s f (i + 1) (i + 1) (out ++ [s.extract fr i]) (acc ++ [(fr, i)]) (by omega) (by omega) (Nat.le_refl _) (by rw [List.map_append, List.filter_append, he, List.filter_cons, if_pos (ext_ne h hi)]; simp)
        rw [if_neg (Nat.lt_irrefl _)] at this
        exact this
      · have e : fr = i := by omega
        subst e
        rw [if_neg h]
        have := spB_cut s f (fr + 1) (fr + 1) (out ++ [s.extract fr fr]) acc (by omega) (by omega) (Nat.le_refl _) (by rw [List.filter_append, he, List.filter_cons, if_neg (by rw [ext_nil]; simp)]; simp)
        rw [if_neg (Nat.lt_irrefl _)] at this
        exact this
    · have hor : ¬ (i = s.size ∨ (s.get! i).toNat = 32) := fun h => h.elim (fun e => by omega) h32
      rw [if_neg h32, if_neg hor]
      have := spB_cut s f (i + 1) fr out acc (by omega) (by omega) (by omega) he
      rw [if_pos (show fr < i + 1 by omega)] at this
      by_cases h : fr < i
      · rw [if_pos h]; exact this
      · have e : fr = i := by omega
        subst e
        rw [if_neg h]; exact this
/-- strings.FieldsFunc at blanks answers the words. -/
theorem fields_words (s : ByteArray) : Lib.goFieldsP blankP s = wordsB s := by
  unfold Lib.goFieldsP Lib.spansOfP wordsB cutB
  rw [spans_spB s s.size 0 none [] (Nat.zero_le _) (by omega)]
  have := spB_cut s (s.size - 0) 0 0 [] [] rfl (Nat.zero_le _) (Nat.le_refl _) rfl
  rw [if_neg (Nat.lt_irrefl _)] at this
  rw [this, Nat.sub_zero]
theorem cutG_length (s : ByteArray) (a : Nat) : ∀ (f i fr : Nat) (out : List ByteArray), (cutG s a f i fr out).length ≤ out.length + f
  | 0, _, _, out => by simp [cutG]
  | f + 1, i, fr, out => by
    rw [cutG]
    split
    · have := cutG_length s a f (i + 1) (i + 1) (out ++ [s.extract fr i])
      rw [List.length_append, List.length_singleton] at this
      omega
    · have := cutG_length s a f (i + 1) fr out
      omega
theorem cutB_length (s : ByteArray) (a : Nat) : (cutB s a).length ≤ s.size + 1 := by
  have := cutG_length s a (s.size + 1) 0 0 []
  unfold cutB
  simpa using this
theorem wordsB_length (s : ByteArray) : (wordsB s).length ≤ s.size + 1 := Nat.le_trans (List.length_filter_le _ _) (cutB_length s 32)
end Go.Proofs.Ytaakpbmddfnchaa
