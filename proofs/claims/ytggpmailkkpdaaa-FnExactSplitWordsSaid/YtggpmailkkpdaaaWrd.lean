/-
  The words of a line: the library's way over the runes meets the plain way over the bytes. Conditions: each lemma's own.
-/
import Derived.Test.YtggpmailkkpdaaaBase
import Derived.Lib.FieldsP
import Derived.Lib.SpaceUEq
import Derived.Laws.RangeString
import Derived.Laws.RangeAny
namespace Go.Proofs.Ytggpmailkkpdaaa
open Go.Lib

def isBl (r : Nat) : Bool := decide (r = 32)
def closeAt (k : Nat) (x : Option Nat × List (Nat × Nat)) : List (Nat × Nat) :=
  match x.1 with
  | some a => x.2 ++ [(a, k)]
  | none => x.2
/-- Where a word has begun that is under way, and the words so far, behind k bytes. -/
def wst (s : ByteArray) : Nat → Option Nat × List (Nat × Nat)
  | 0 => (none, [])
  | k + 1 => if s.data.toList[k]? = some 32 then (none, closeAt k (wst s k)) else (some ((wst s k).1.getD k), (wst s k).2)
theorem wst_lt (s : ByteArray) (k a : Nat) (h : (wst s k).1 = some a) : a < k := by
  induction k with
  | zero => cases h
  | succ k ih =>
    rw [wst] at h
    split at h
    · cases h
    · cases hk : (wst s k).1 with
      | none => rw [hk] at h; simp at h; omega
      | some b => rw [hk] at h ih; simp at h; have := ih (by rw [h]); omega
theorem wst_len (s : ByteArray) (k : Nat) : (wst s k).2.length + (if (wst s k).1.isSome then 1 else 0) ≤ k := by
  induction k with
  | zero => simp [wst]
  | succ k ih =>
    rw [wst]
    split
    · cases hk : (wst s k).1 <;> rw [hk] at ih <;> simp [closeAt, hk] at ih ⊢ <;> omega
    · cases hk : (wst s k).1 <;> rw [hk] at ih <;> simp at ih ⊢ <;> omega
/-- Every word lies within the bytes so far. -/
theorem wst_in (s : ByteArray) (k : Nat) : ∀ x ∈ (wst s k).2, x.1 < x.2 ∧ x.2 ≤ k := by
  induction k with
  | zero => simp [wst]
  | succ k ih =>
    rw [wst]
    split
    · cases hk : (wst s k).1 with
      | none => intro x hx; have := ih x (by simpa [closeAt, hk] using hx); omega
      | some a =>
        intro x hx
        have hx : x ∈ (wst s k).2 ∨ x = (a, k) := by simpa [closeAt, hk] using hx
        rcases hx with hx | rfl
        · have := ih x hx; omega
        · have := wst_lt s k a hk; simp; omega
    · exact fun x hx => by have := ih x hx; omega
theorem wst_skip {s : ByteArray} {pos : Nat} {st : Option Nat} {acc : List (Nat × Nat)} (h : wst s pos = (st, acc)) : ∀ k, 1 ≤ k → (∀ j, j < k → s.data.toList[pos + j]? ≠ some 32) → wst s (pos + k) = (some (st.getD pos), acc)
  | 0, h1, _ => by omega
  | k + 1, _, hn => by
    by_cases hk : k = 0
    · subst hk
      show wst s (pos + 1) = _
      have h0 := hn 0 (by omega)
      rw [Nat.add_zero] at h0
      rw [wst, if_neg h0, h]
    · have ih := wst_skip h k (by omega) (fun j hj => hn j (by omega))
      show wst s (pos + k + 1) = _
      rw [wst, if_neg (hn k (by omega)), ih]
      rfl
theorem get_bang {s : ByteArray} {i : Nat} (h : i < s.size) : s.get! i = s[i]'h := by
  show s.data[i]! = s.data[i]'h
  exact getElem!_pos s.data i h
theorem at_get {s : ByteArray} {i : Nat} (h : i < s.size) : s.data.toList[i]? = some (s[i]'h) := by
  rw [Array.getElem?_toList]
  exact Array.getElem?_eq_getElem h
theorem not_bl {s : ByteArray} {i : Nat} (h : 128 ≤ (s.get! i).toNat) : s.data.toList[i]? ≠ some 32 := by
  by_cases hi : i < s.size
  · rw [at_get hi, ← get_bang hi]
    intro e
    have e' := Option.some.inj e
    rw [e'] at h
    exact absurd h (by decide)
  · rw [List.getElem?_eq_none (by show s.data.toList.length ≤ i; rw [Array.length_toList]; exact Nat.le_of_not_lt hi)]
    exact fun e => by cases e
theorem spans_wst (s : ByteArray) : ∀ (f pos : Nat) (st : Option Nat) (acc : List (Nat × Nat)), wst s pos = (st, acc) → pos ≤ s.size → s.size ≤ pos + f → spansFromP isBl s f pos st acc = ((wst s s.size).2, (wst s s.size).1)
  | 0, pos, st, acc, h, h1, h2 => by
    obtain rfl : pos = s.size := by omega
    rw [h]; rfl
  | f + 1, pos, st, acc, h, h1, h2 => by
    by_cases hlt : pos < s.size
    · by_cases hb : (s[pos]'hlt).toNat < 128
      · have hd := decode_ascii s pos hlt hb
        unfold spansFromP
        rw [if_pos hlt, hd]
        dsimp only
        by_cases h32 : (s[pos]'hlt).toNat = 32
        · have e : s.data.toList[pos]? = some 32 := by
            rw [at_get hlt]
            exact congrArg some (UInt8.toNat_inj.1 h32)
          have hn : wst s (pos + 1) = (none, closeAt pos (st, acc)) := by rw [wst, if_pos e, h]
          rw [if_pos (by simp [isBl, h32])]
          cases st with
          | none => exact spans_wst s f _ _ _ hn (by omega) (by omega)
          | some a => exact spans_wst s f _ _ _ hn (by omega) (by omega)
        · have e : s.data.toList[pos]? ≠ some 32 := by
            rw [at_get hlt]
            intro e
            exact h32 (by rw [Option.some.inj e]; rfl)
          have hn : wst s (pos + 1) = (some (st.getD pos), acc) := by rw [wst, if_neg e, h]
          rw [if_neg (by simp [isBl, h32])]
          cases st with
          | none => exact spans_wst s f _ _ _ hn (by omega) (by omega)
          | some a => exact spans_wst s f _ _ _ hn (by omega) (by omega)
      · have hp := decode_high s pos hlt (by omega)
        have hbang := get_bang hlt
        have hc := decodeN_conts (s.size - pos) (s.get! pos).toNat (s.get! (pos + 1)).toNat (s.get! (pos + 2)).toNat (s.get! (pos + 3)).toNat
        have hw := decodeN_le_n' (s.size - pos) (s.get! pos).toNat (s.get! (pos + 1)).toNat (s.get! (pos + 2)).toNat (s.get! (pos + 3)).toNat (by omega)
        rw [← decode_at] at hc hw
        obtain ⟨c1, c2, c3, c4⟩ := hc
        generalize hK : (Utf8.decode s pos).2 = K at hp hw c1 c2 c3 c4
        have hn : wst s (pos + K) = (some (st.getD pos), acc) := wst_skip h K hp.2 (fun j hj => by
          obtain rfl | rfl | rfl | rfl : j = 0 ∨ j = 1 ∨ j = 2 ∨ j = 3 := by omega
          · exact not_bl (by rw [Nat.add_zero, hbang]; omega)
          · exact not_bl (by have := (c1 (by omega)).1; omega)
          · exact not_bl (by have := (c2 (by omega)).1; omega)
          · exact not_bl (by have := (c3 (by omega)).1; omega))
        unfold spansFromP
        rw [if_pos hlt, if_neg (by simp [isBl]; omega), hK]
        cases st with
        | none => exact spans_wst s f _ _ _ hn (by omega) (by omega)
        | some a => exact spans_wst s f _ _ _ hn (by omega) (by omega)
    · rw [spansFromP_end _ _ _ _ _ _ hlt]
      obtain rfl : pos = s.size := by omega
      rw [h]
/-- The words of a line. -/
def wSp (s : ByteArray) : List (Nat × Nat) := closeAt s.size (wst s s.size)
def wds (s : ByteArray) : List ByteArray := (wSp s).map fun x => s.extract x.1 x.2
theorem fields_wds (s : ByteArray) : goFieldsP isBl s = wds s := by
  unfold goFieldsP wds spansOfP
  rw [spans_wst s s.size 0 none [] rfl (Nat.zero_le _) (by omega)]
  unfold wSp closeSpans closeAt
  cases (wst s s.size).1 <;> rfl
theorem wds_len (s : ByteArray) : (wds s).length ≤ s.size := by
  have := wst_len s s.size
  unfold wds wSp closeAt
  cases h : (wst s s.size).1 <;> rw [h] at this <;> simp at this ⊢ <;> omega
/-- The model's way: the end of the line closes a word as a blank does. -/
def wse (s : ByteArray) : Nat → Option Nat × List (Nat × Nat)
  | 0 => (none, [])
  | k + 1 => if k = s.size ∨ s.data.toList[k]? = some 32 then (none, closeAt k (wse s k)) else (some ((wse s k).1.getD k), (wse s k).2)
theorem wse_wst (s : ByteArray) : ∀ k, k ≤ s.size → wse s k = wst s k
  | 0, _ => rfl
  | k + 1, h => by
    rw [wse, wst, wse_wst s k (by omega)]
    by_cases hb : s.data.toList[k]? = some 32
    · rw [if_pos (.inr hb), if_pos hb]
    · rw [if_neg (by intro e; rcases e with e | e; · omega
                     · exact hb e), if_neg hb]
theorem wse_end (s : ByteArray) : wse s (s.size + 1) = (none, wSp s) := by
  rw [wse, if_pos (.inl rfl), wse_wst s _ (Nat.le_refl _)]
  rfl
theorem wse_lt (s : ByteArray) (k a : Nat) (hk : k ≤ s.size) (h : (wse s k).1 = some a) : a < k := wst_lt s k a (by rw [← wse_wst s k hk]; exact h)
theorem wse_len (s : ByteArray) (k : Nat) (hk : k ≤ s.size) : (wse s k).2.length ≤ k := by
  rw [wse_wst s k hk]
  have := wst_len s k
  omega
theorem wse_sep {s : ByteArray} {k : Nat} (h : k = s.size ∨ s.data.toList[k]? = some 32) : wse s (k + 1) = (none, closeAt k (wse s k)) := by rw [wse, if_pos h]
theorem wse_in {s : ByteArray} {k : Nat} (h : ¬ (k = s.size ∨ s.data.toList[k]? = some 32)) : wse s (k + 1) = (some ((wse s k).1.getD k), (wse s k).2) := by rw [wse, if_neg h]
/-- The cells of these pieces. -/
def exC (s : ByteArray) (l : List (Nat × Nat)) : List Value := l.map fun x => Value.string (s.extract x.1 x.2)
theorem exC_len (s : ByteArray) (l : List (Nat × Nat)) : (exC s l).length = l.length := by simp [exC]
theorem exC_snoc (s : ByteArray) (l : List (Nat × Nat)) (a b : Nat) : exC s (l ++ [(a, b)]) = exC s l ++ [Value.string (s.extract a b)] := by simp [exC]
theorem exC_wds (s : ByteArray) : exC s (wSp s) = (wds s).map Value.string := by simp [exC, wds]
theorem wds_size (s : ByteArray) : (wds s).length = (wSp s).length := by simp [wds]

end Go.Proofs.Ytggpmailkkpdaaa
