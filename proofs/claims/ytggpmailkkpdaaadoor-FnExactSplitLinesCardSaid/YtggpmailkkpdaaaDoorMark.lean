/-
  The laws' marks: writing them into lists of a call's own, and finding them there again. Conditions: each theorem's own.
-/
import Derived.Test.YtggpmailkkpdaaaDoorOwn
import Derived.Test.YtggpmailkkpdaaaDoorDigs
import Derived.Test.YtggpmailkkpdaaaDoorSFind
namespace Go.Proofs.YtggpmailkkpdaaaDoor
open Go.RowKit

/-- The text of mark k. -/
def mtxt (k : Nat) : ByteArray := ⟨(109 :: digs k).toArray⟩
theorem digs_len {k : Nat} (h : k ≤ 4503599627370496) : (digs k).length ≤ 21 := by
  by_cases h0 : k = 0
  · subst h0; simp [digs]
  · have e : Lib.itoa (k : Int) = digs k := by unfold Lib.itoa digs; rw [if_neg (by omega), if_neg h0, Int.toNat_natCast]
    rw [← e]
    have := Lib.itoa_length_le (k : Int) (by omega) (by omega)
    omega
theorem mtxt_size {k : Nat} (h : k ≤ 4503599627370496) : (mtxt k).size ≤ 1048576 := by
  have := digs_len h
  show (109 :: digs k).toArray.size ≤ _
  simp; omega

set_option maxHeartbeats 1000000 in
set_option maxRecDepth 100000 in
theorem markText_any (k : Nat) (w : World) (h1 : 1 ≤ k) (h2 : k ≤ 4503599627370496) :
    Calls Tryd.prog 27 #[.int .i64 (k : Int)] w fun e w' => e = .returned (.string (mtxt k)) ∧ Below w.heap.size w w' := by
  have hlim : Hid (∀ l : List UInt8, l.length ≤ (digs k).length → l.length ≤ 21) := Lib.hid fun l h => by have := digs_len h2; omega
  have hb0 : decide ((k : Int) ≤ 0) = false := by simp; omega
  go_enter Tryd.func27, Tryd.ntmps27
  go_wp2_with fail
  go_loopw [0, 3] (fun m o wr => ∃ (u : Nat) (l : List UInt8), o = .string ⟨l.toArray⟩ ∧ m = .int .i64 u ∧ u ≤ k ∧ Hid (digs u ++ l = digs k) ∧ Below w.heap.size w wr) (fun m _ _ => (intOf m).toNat)
  case atStart => exact ⟨k, [], rfl, rfl, Nat.le_refl _, Lib.hid (List.append_nil _), Below.refl _ _⟩
  case round =>
    obtain ⟨u, l, rfl, rfl, hu, hd, hb⟩ := hrel
    by_cases h0 : u = 0
    · subst h0
      have hlen : ¬ 9223372036854775807 < 1 + l.length := by have := hlim.out l (by rw [← hd.out]; simp); omega
      go_wp2
      go_ret
      exact ⟨ret_str (by unfold mtxt; rw [← hd.out]; rfl), hb⟩
    · have hm0 : ¬ (u : Int) % 10 < 0 := by omega
      have hsz := hb.size
      have hcv := conv_digit wr (u % 10) (by omega) (48 + (u : Int) % 10) (by omega)
      have hst := Lib.hid (digs_step h0)
      have hlen : ¬ 9223372036854775807 < 1 + l.length := by have := hlim.out l (by rw [← hd.out]; simp); omega
      go_wp2
      go_roundw
      case rel => exact ⟨u / 10, (48 + UInt8.ofNat (u % 10)) :: l, by rw [app_one], by go_num, by omega, Lib.hid (by rw [← hd.out, hst.out]; simp), hb.alloc hsz _⟩
      case measure => simp [intOf]; omega

/-- The marks from k on, as numbers. -/
def mInts (k n : Nat) : List Int := (List.range n).map fun i => ((k + i : Nat) : Int)
theorem mInts_len (k n : Nat) : (mInts k n).length = n := by simp [mInts]
theorem mInts_at (k n : Nat) {i : Nat} (h : i < n) : iAt (mInts k n) i = ((k + i : Nat) : Int) := by simp [iAt, mInts, h]
/-- .. as glues. -/
def mGs (k n : Nat) : List Gl := (List.range n).map fun i => ⟨mtxt (k + 2 * i), ((k + 2 * i + 1 : Nat) : Int)⟩
theorem mGs_len (k n : Nat) : (mGs k n).length = n := by simp [mGs]
theorem mGs_N (k n : Nat) {i : Nat} (h : i < n) : gN (mGs k n) i = mtxt (k + 2 * i) := by simp [gN, mGs, h]
theorem mGs_S (k n : Nat) {i : Nat} (h : i < n) : gS (mGs k n) i = ((k + 2 * i + 1 : Nat) : Int) := by simp [gS, mGs, h]
/-- The mark of tile i. -/
def mK (ts : List Tl) (k : Nat) : Nat → Nat
  | 0 => k
  | i + 1 => mK ts k i + 1 + (tS ts i).length
theorem mK_le (ts : List Tl) (k : Nat) (i : Nat) (h : tUpTo ts i) : k ≤ mK ts k i ∧ mK ts k i ≤ k + i * 1048577 := by
  induction i with
  | zero => simp [mK]
  | succ i ih =>
    have := ih fun j hj => h j (by omega)
    have := (h i (by omega)).2
    simp only [mK]
    omega
def mTs (ts : List Tl) (k : Nat) : List Tl := (List.range ts.length).map fun i => ⟨mtxt (mK ts k i), mInts (mK ts k i + 1) (tS ts i).length⟩
theorem mTs_len (ts : List Tl) (k : Nat) : (mTs ts k).length = ts.length := by simp [mTs]
theorem mTs_N (ts : List Tl) (k : Nat) {i : Nat} (h : i < ts.length) : tN (mTs ts k) i = mtxt (mK ts k i) := by simp [tN, mTs, h]
theorem mTs_S (ts : List Tl) (k : Nat) {i : Nat} (h : i < ts.length) : tS (mTs ts k) i = mInts (mK ts k i + 1) (tS ts i).length := by simp [tS, mTs, h]
theorem ret_nat {a : Int} {b : Nat} (h : a = (b : Int)) : Ending.returned (.int .i64 a) = .returned (.int .i64 (b : Int)) := by rw [h]

/-- The row of tiles behind j rounds of marking. -/
def MarkedTo (w : World) (g : Nat) (G : Nat → Nat) (sv : Nat → Value) (cap : Nat) (ts : List Tl) (k j : Nat) : Prop :=
  TsAt w g G sv cap ts.length (fun q => if q < j then mtxt (mK ts k q) else tN ts q) (fun q => if q < j then mInts (mK ts k q + 1) (tS ts q).length else tS ts q)

/-- A set that holds the marks from k on. -/
def mSet (S : Set_) (k : Nat) : Set_ := ⟨mGs k S.gs.length, mTs S.ts (k + 2 * S.gs.length)⟩
/-- The mark behind it. -/
def mEnd (S : Set_) (k : Nat) : Nat := mK S.ts (k + 2 * S.gs.length) S.ts.length
theorem mEnd_le (S : Set_) (k : Nat) (hs : S.small) : k ≤ mEnd S k ∧ mEnd S k ≤ k + 1099514773504 := by
  have := mK_le S.ts (k + 2 * S.gs.length) S.ts.length hs.tn
  have := hs.gl
  have := hs.tl
  unfold mEnd
  omega

/-- The mark behind so many numbers. -/
def iEnd (n : Nat) : Nat := 1 + n
end Go.Proofs.YtggpmailkkpdaaaDoor
