/-
  The laws' marks: writing them into lists of a call's own, and finding them there again. Conditions: each theorem's own.
-/
import Derived.Test.YtnofbeeihdgmdaaDoorOwn
import Derived.Test.YtnofbeeihdgmdaaDoorDigs
import Derived.Test.YtnofbeeihdgmdaaDoorSFind
namespace Go.Proofs.YtnofbeeihdgmdaaDoor
open Go.RowKit

/-- The text of mark k. -/
def mtxt (k : Nat) : ByteArray := ⟨(109 :: digs k).toArray⟩
theorem digs_len {k : Nat} (h : k ≤ 4503599627370496) : (digs k).length ≤ 21 := by
  by_cases h0 : k = 0
  · subst h0; simp [digs]
  · have e : Lib.itoa (k : Int) = digs k := by unfold Lib.itoa digs; rw [if_neg (by omega), if_neg h0, Int.toNat_natCast]
    rw [← e]
    have := Lib.itoa_length_le (k : Int) (by omega) (by omega)
    omega
theorem mtxt_size {k : Nat} (h : k ≤ 4503599627370496) : (mtxt k).size ≤ 1048576 := by
  have := digs_len h
  show (109 :: digs k).toArray.size ≤ _
  simp; omega

set_option maxHeartbeats 1000000 in
set_option maxRecDepth 100000 in
theorem markText_any (k : Nat) (w : World) (h1 : 1 ≤ k) (h2 : k ≤ 4503599627370496) :
    Calls Tryd.prog 90 #[.int .i64 (k : Int)] w fun e w' => e = .returned (.string (mtxt k)) ∧ Below w.heap.size w w' := by
  have hlim : Hid (∀ l : List UInt8, l.length ≤ (digs k).length → l.length ≤ 21) := Lib.hid fun l h => by have := digs_len h2; omega
  have hb0 : decide ((k : Int) ≤ 0) = false := by simp; omega
  go_enter Tryd.func90, Tryd.ntmps90
  go_wp2_with fail
  go_loopw [0, 3] (fun m o wr => ∃ (u : Nat) (l : List UInt8), o = .string ⟨l.toArray⟩ ∧ m = .int .i64 u ∧ u ≤ k ∧ Hid (digs u ++ l = digs k) ∧ Below w.heap.size w wr) (fun m _ _ => (intOf m).toNat)
  case atStart => exact ⟨k, [], rfl, rfl, Nat.le_refl _, Lib.hid (List.append_nil _), Below.refl _ _⟩
  case round =>
    obtain ⟨u, l, rfl, rfl, hu, hd, hb⟩ := hrel
    by_cases h0 : u = 0
    · subst h0
      have hlen : ¬ 9223372036854775807 < 1 + l.length := by have := hlim.out l (by rw [← hd.out]; simp); omega
      go_wp2
      go_ret
      exact ⟨ret_str (by unfold mtxt; rw [← hd.out]; rfl), hb⟩
    · have hm0 : ¬ (u : Int) % 10 < 0 := by omega
      have hsz := hb.size
      have hcv := conv_digit wr (u % 10) (by omega) (48 + (u : Int) % 10) (by omega)
      have hst := Lib.hid (digs_step h0)
      have hlen : ¬ 9223372036854775807 < 1 + l.length := by have := hlim.out l (by rw [← hd.out]; simp); omega
      go_wp2
      go_roundw
      case rel => exact ⟨u / 10, (48 + UInt8.ofNat (u % 10)) :: l, by rw [app_one], by go_num, by omega, Lib.hid (by rw [← hd.out, hst.out]; simp), hb.alloc hsz _⟩
      case measure => simp [intOf]; omega

/-- The marks from k on, as numbers. -/
def mInts (k n : Nat) : List Int := (List.range n).map fun i => ((k + i : Nat) : Int)
theorem mInts_len (k n : Nat) : (mInts k n).length = n := by simp [mInts]
theorem mInts_at (k n : Nat) {i : Nat} (h : i < n) : iAt (mInts k n) i = ((k + i : Nat) : Int) := by simp [iAt, mInts, h]
/-- .. as glues. -/
def mGs (k n : Nat) : List Gl := (List.range n).map fun i => ⟨mtxt (k + 2 * i), ((k + 2 * i + 1 : Nat) : Int)⟩
theorem mGs_len (k n : Nat) : (mGs k n).length = n := by simp [mGs]
theorem mGs_N (k n : Nat) {i : Nat} (h : i < n) : gN (mGs k n) i = mtxt (k + 2 * i) := by simp [gN, mGs, h]
theorem mGs_S (k n : Nat) {i : Nat} (h : i < n) : gS (mGs k n) i = ((k + 2 * i + 1 : Nat) : Int) := by simp [gS, mGs, h]
/-- The mark of tile i. -/
def mK (ts : List Tl) (k : Nat) : Nat → Nat
  | 0 => k
  | i + 1 => mK ts k i + 1 + (tS ts i).length
theorem mK_le (ts : List Tl) (k : Nat) (i : Nat) (h : tUpTo ts i) : k ≤ mK ts k i ∧ mK ts k i ≤ k + i * 1048577 := by
  induction i with
  | zero => simp [mK]
  | succ i ih =>
    have := ih fun j hj => h j (by omega)
    have := (h i (by omega)).2
    simp only [mK]
    omega
def mTs (ts : List Tl) (k : Nat) : List Tl := (List.range ts.length).map fun i => ⟨mtxt (mK ts k i), mInts (mK ts k i + 1) (tS ts i).length⟩
theorem mTs_len (ts : List Tl) (k : Nat) : (mTs ts k).length = ts.length := by simp [mTs]
theorem mTs_N (ts : List Tl) (k : Nat) {i : Nat} (h : i < ts.length) : tN (mTs ts k) i = mtxt (mK ts k i) := by simp [tN, mTs, h]
theorem mTs_S (ts : List Tl) (k : Nat) {i : Nat} (h : i < ts.length) : tS (mTs ts k) i = mInts (mK ts k i + 1) (tS ts i).length := by simp [tS, mTs, h]
theorem ret_nat {a : Int} {b : Nat} (h : a = (b : Int)) : Ending.returned (.int .i64 a) = .returned (.int .i64 (b : Int)) := by rw [h]

set_option maxHeartbeats 400000 in
theorem markInt64S_any (g : Nat) (v : Value) (zs : List Int) (k : Nat) (w : World) (h : OwnAt w g v zs) (hz : zs.length ≤ 1048576) (h2 : k ≤ 1125899906842624) :
    Calls Tryd.prog 35 #[v, .int .i64 (k : Int)] w fun e w' => e = .returned (.int .i64 ((k + zs.length : Nat) : Int)) ∧ OwnAt w' g v (mInts k zs.length) ∧ Within g (g + 1) w w' := by
  rcases h with ⟨rfl, h0⟩ | ⟨cap, f, rfl, hl, hm, hr, hf⟩
  · rw [h0]
    go_enter Tryd.func35, Tryd.ntmps35
    go_wp2_with fail
    refine wp_loop_rounds 1 ?_
    rw [rounds_succ]
    go_wp2
    go_ret
    exact ⟨rfl, .inl ⟨rfl, by simp [mInts]⟩, Within.refl _ _ _⟩
  · unfold maxLen at hm
    have HR := Lib.hid hr
    clear hr hf
    go_enter Tryd.func35, Tryd.ntmps35
    go_wp2_with fail
    go_loopw [1, 5] (fun m i wr => ∃ j : Nat, j ≤ zs.length ∧ i = .int .i64 j ∧ m = .int .i64 ((k + j : Nat) : Int) ∧ (∃ f', wr.rowIs g 2 cap f' ∧ ∀ q, q < j → f' q = .int .i64 ((k + q : Nat) : Int)) ∧ Within g (g + 1) w wr) (fun _ i _ => zs.length - (intOf i).toNat)
    case atStart => exact ⟨0, by omega, rfl, rfl, ⟨f, HR.out, fun q hq => by omega⟩, Within.refl _ _ _⟩
    case round =>
      obtain ⟨j, hj, rfl, rfl, ⟨f', hr', hf'⟩, hwi⟩ := hrel
      by_cases hlt : j < zs.length
      · have c0 := hr'.cell (i := j) (by omega)
        have c1 := hr'.frozen j
        have HF := Lib.hid hf'
        have HR' := Lib.hid hr'
        clear hf' hr'
        go_wp2
        go_roundw
        case rel =>
          refine ⟨j + 1, by omega, by go_num, by go_num, ⟨_, HR'.out.set j _, fun q hq => ?_⟩, hwi.trans (Within.set1 g wr j _)⟩
          by_cases hqj : q = j
          · subst hqj; simp
          · rw [if_neg hqj]; exact HF.out q (by omega)
        case measure => simp [intOf]; omega
      · obtain rfl : j = zs.length := by omega
        have HF := Lib.hid hf'
        have HR' := Lib.hid hr'
        clear hf' hr'
        go_wp2
        go_ret
        refine ⟨rfl, .inr ⟨cap, f', by rw [mInts_len], by rw [mInts_len]; exact hl, by unfold maxLen; omega, HR'.out, fun q hq => ?_⟩, hwi⟩
        rw [mInts_len] at hq
        rw [mInts_at _ _ hq]
        exact HF.out q hq

set_option maxHeartbeats 400000 in
theorem heldInt64S_yes (v : Value) (k n : Nat) (w : World) (h : Ints w v (mInts k n)) (hz : n ≤ 1048576) (h2 : k ≤ 1125899906842624) :
    Calls Tryd.prog 36 #[v, .int .i64 (k : Int)] w fun e w' => e = .returned (.int .i64 ((k + n : Nat) : Int)) ∧ w = w' := by
  obtain ⟨ao, cap, rfl, hl, hm, hc⟩ := h
  rw [mInts_len] at hl hc ⊢
  unfold maxLen at hm
  have H0 := Lib.hid hc
  clear hc
  go_enter Tryd.func36, Tryd.ntmps36
  go_wp2_with fail
  go_loop [1, 5] (fun m i => ∃ j : Nat, j ≤ n ∧ i = .int .i64 j ∧ m = .int .i64 ((k + j : Nat) : Int)) (fun _ i => n - (intOf i).toNat)
  case atStart => exact ⟨0, by omega, rfl, rfl⟩
  case round =>
    obtain ⟨j, hj, rfl, rfl⟩ := hrel
    by_cases hlt : j < n
    · obtain ⟨b, off, rfl, H1⟩ := H0.out (by omega)
      have c0 := H1 j 0 hlt (by omega)
      rw [mInts_at _ _ hlt] at c0
      simp at c0
      clear H1
      go_wp2
      go_round
      case rel => exact ⟨j + 1, by omega, by go_num, by go_num⟩
      case measure => simp [intOf]; omega
    · obtain rfl : j = n := by omega
      go_wp2
      go_ret
      exact ⟨rfl, rfl⟩

set_option maxHeartbeats 800000 in
theorem markGlueS_any (lo hi : Nat) (v : Value) (gs : List Gl) (k : Nat) (w : World) (h : OwnGs w lo hi v gs) (hz : gs.length ≤ 1048576) (h1 : 1 ≤ k) (h2 : k ≤ 1125899906842624) :
    Calls Tryd.prog 58 #[v, .int .i64 (k : Int)] w fun e w' => e = .returned (.int .i64 ((k + 2 * gs.length : Nat) : Int)) ∧ OwnGs w' lo hi v (mGs k gs.length) ∧ Within lo hi w w' := by
  rcases h with ⟨rfl, h0⟩ | ⟨g, cap, rfl, hl, hm, hr, hlo, hhi⟩
  · rw [h0]
    go_enter Tryd.func58, Tryd.ntmps58
    go_wp2_with fail
    refine wp_loop_rounds 1 ?_
    rw [rounds_succ]
    go_wp2
    go_ret
    exact ⟨rfl, .inl ⟨rfl, by simp [mGs]⟩, Within.refl _ _ _⟩
  · unfold maxLen at hm
    have HR := Lib.hid hr
    clear hr
    go_enter Tryd.func58, Tryd.ntmps58
    go_wp2_with fail
    go_loopw [1, 5] (fun m i wr => ∃ j : Nat, j ≤ gs.length ∧ i = .int .i64 j ∧ m = .int .i64 ((k + 2 * j : Nat) : Int) ∧ GsAt wr g cap gs.length (fun q => if q < j then mtxt (k + 2 * q) else gN gs q) (fun q => if q < j then ((k + 2 * q + 1 : Nat) : Int) else gS gs q) ∧ Within lo hi w wr) (fun _ i _ => gs.length - (intOf i).toNat)
    case atStart => exact ⟨0, by omega, rfl, rfl, by simpa using HR.out, Within.refl _ _ _⟩
    case round =>
      obtain ⟨j, hj, rfl, rfl, hr', hwi⟩ := hrel
      have HR' := Lib.hid hr'
      clear hr'
      by_cases hlt : j < gs.length
      · have hgl : g < wr.heap.size := by obtain ⟨f, hf, -⟩ := HR'.out; exact hf.lt
        go_wp2_with fail
        refine (markText_any (k + 2 * j) _ (by omega) (by omega)).mono ?_
        rintro e w1 ⟨rfl, hb1⟩
        have G1 : GsAt w1 g cap gs.length (fun q => if q < j then mtxt (k + 2 * q) else gN gs q) (fun q => if q < j then ((k + 2 * q + 1 : Nat) : Int) else gS gs q) := by
          obtain ⟨f, hf, hff⟩ := HR'.out
          exact ⟨f, hf.of_block (hb1.block _ hgl), hff⟩
        have HG1 := Lib.hid G1
        obtain ⟨f, hf, -⟩ := G1
        have c0 := hf.cell (i := j * 2) (by omega)
        have c1 := hf.cell (i := j * 2 + 1) (by omega)
        have z0 := hf.frozen (j * 2)
        have z1 := hf.frozen (j * 2 + 1)
        have HB1 := Lib.hid hb1
        clear hf hb1
        go_wp2
        go_roundw
        case rel =>
          refine ⟨j + 1, by omega, by go_num, by go_num, ?_, (hwi.trans (Within.of HB1.out)).trans (((Within.set1 g w1 (j * 2) _).trans (Within.set1 g _ (j * 2 + 1) _)).mono hlo (by omega))⟩
          obtain ⟨f2, q1, q2⟩ := (HG1.out.name j (mtxt (k + 2 * j))).str j ((k + 2 * j + 1 : Nat) : Int)
          refine ⟨f2, by simpa using q1, fun i hi => ?_⟩
          obtain ⟨e1, e2⟩ := q2 i hi
          rw [e1, e2]
          by_cases hij : i = j
          · subst hij; simp
          · simp only [if_neg hij]
            by_cases hlt2 : i < j
            · simp [hlt2, show i < j + 1 by omega]
            · simp [hlt2, show ¬ i < j + 1 by omega]
        case measure => simp [intOf]; omega
      · obtain rfl : j = gs.length := by omega
        go_wp2
        go_ret
        obtain ⟨f, hf, hff⟩ := HR'.out
        refine ⟨rfl, .inr ⟨g, cap, by rw [mGs_len], by rw [mGs_len]; exact hl, by unfold maxLen; omega, ⟨f, hf, fun i hi => ?_⟩, hlo, hhi⟩, hwi⟩
        rw [mGs_len] at hi
        obtain ⟨e1, e2⟩ := hff i hi
        rw [e1, e2, mGs_N _ _ hi, mGs_S _ _ hi]
        simp [hi]

/-- The row of tiles behind j rounds of marking. -/
def MarkedTo (w : World) (g : Nat) (G : Nat → Nat) (sv : Nat → Value) (cap : Nat) (ts : List Tl) (k j : Nat) : Prop :=
  TsAt w g G sv cap ts.length (fun q => if q < j then mtxt (mK ts k q) else tN ts q) (fun q => if q < j then mInts (mK ts k q + 1) (tS ts q).length else tS ts q)

set_option maxHeartbeats 1600000 in
theorem markTileS_any (lo hi : Nat) (v : Value) (ts : List Tl) (k : Nat) (w : World) (h : OwnTs w lo hi v ts) (hz : ts.length ≤ 1048576) (hu : tUpTo ts ts.length) (h1 : 1 ≤ k) (h2 : k ≤ 35184372088832) :
    Calls Tryd.prog 59 #[v, .int .i64 (k : Int)] w fun e w' => e = .returned (.int .i64 (mK ts k ts.length : Int)) ∧ OwnTs w' lo hi v (mTs ts k) ∧ Within lo hi w w' := by
  rcases h with ⟨rfl, h0⟩ | ⟨g, G, sv, cap, rfl, hl, hm, hr, ha⟩
  · rw [h0]
    go_enter Tryd.func59, Tryd.ntmps59
    go_wp2_with fail
    refine wp_loop_rounds 1 ?_
    rw [rounds_succ]
    go_wp2
    go_ret
    exact ⟨rfl, .inl ⟨rfl, by rw [mTs_len]; exact h0⟩, Within.refl _ _ _⟩
  · unfold maxLen at hm
    have HR := Lib.hid hr
    have HA := Lib.hid ha
    have HU := Lib.hid hu
    clear hr ha hu
    go_enter Tryd.func59, Tryd.ntmps59
    go_wp2_with fail
    go_loopw [1, 5] (fun m i wr => ∃ j : Nat, j ≤ ts.length ∧ i = .int .i64 j ∧ m = .int .i64 (mK ts k j : Int) ∧ MarkedTo wr g G sv cap ts k j ∧ Within lo hi w wr) (fun _ i _ => ts.length - (intOf i).toNat)
    case atStart => exact ⟨0, by omega, rfl, rfl, by simpa [MarkedTo] using HR.out, Within.refl _ _ _⟩
    case round =>
      obtain ⟨j, hj, rfl, rfl, hr', hwi⟩ := hrel
      have HR' := Lib.hid hr'
      clear hr'
      by_cases hlt : j < ts.length
      · have hgl : g < wr.heap.size := by obtain ⟨⟨f, hf, -⟩, -⟩ := HR'.out; exact hf.lt
        obtain ⟨b1, b2⟩ := mK_le ts k j (fun q hq => HU.out q (by omega))
        have hlen := (HU.out j hlt).2
        go_wp2_with fail
        refine (markText_any (mK ts k j) _ (by omega) (by omega)).mono ?_
        rintro e w1 ⟨rfl, hb1⟩
        have HB1 := Lib.hid hb1
        have hg0 := HA.out.g0
        have hg1 := HA.out.g1
        have G1 : MarkedTo w1 g G sv cap ts k j := by
          obtain ⟨⟨f, hf, hff⟩, hs⟩ := HR'.out
          exact ⟨⟨f, hf.of_block (HB1.out.block _ hgl), hff⟩, fun i hi => (hs i hi).keep (Within.of (lo := 0) (hi := 0) HB1.out) (by omega)⟩
        have HG1 := Lib.hid (TsAt.name G1 HA.out.ne j (mtxt (mK ts k j)))
        obtain ⟨⟨f, hf, hff⟩, -⟩ := G1
        have c0 := hf.cell (i := j * 2) (by omega)
        have c1 := hf.cell (i := j * 2 + 1) (by omega)
        rw [(hff j hlt).2] at c1
        have z0 := hf.frozen (j * 2)
        clear hf hff hb1
        have hsd : OwnAt (w1.setCell ⟨g, j * 2, none⟩ (.string (mtxt (mK ts k j)))) (G j) (sv j) (tS ts j) := by
          have := HG1.out.side j hlt
          simpa using this
        have HSD := Lib.hid hsd
        clear hsd
        go_wp2_with fail
        rw [show ((mK ts k j : Int) + 1) = ((mK ts k j + 1 : Nat) : Int) from by omega]
        refine (markInt64S_any (G j) (sv j) (tS ts j) (mK ts k j + 1) _ HSD.out hlen (by omega)).mono ?_
        rintro e w2 ⟨rfl, hz2, hw2⟩
        have HZ2 := Lib.hid hz2
        have HW2 := Lib.hid hw2
        clear hz2 hw2
        go_wp2
        go_roundw
        case rel =>
          have hG0 := HA.out.G0 j hlt
          have hG1 := HA.out.G1 j hlt
          refine ⟨j + 1, by omega, by go_num, ?_, ?_, ((hwi.trans (Within.of HB1.out)).trans ((Within.set1 g w1 (j * 2) _).mono hg0 (by omega))).trans (HW2.out.mono hG0 (by omega))⟩
          · simp only [mK]
            go_num
          · have := TsAt.sides HG1.out HA.out hlt HW2.out HZ2.out
            obtain ⟨⟨f, q1, q2⟩, q3⟩ := this
            refine ⟨⟨f, q1, fun i hi => ?_⟩, fun i hi => ?_⟩
            · obtain ⟨e1, e2⟩ := q2 i hi
              rw [e1, e2]
              by_cases hij : i = j
              · subst hij; simp
              · simp only [if_neg hij]
                by_cases hlt2 : i < j
                · simp [hlt2, show i < j + 1 by omega]
                · simp [hlt2, show ¬ i < j + 1 by omega]
            · have := q3 i hi
              by_cases hij : i = j
              · subst hij; simpa using this
              · simp only [if_neg hij] at this
                by_cases hlt2 : i < j
                · simpa [hlt2, show i < j + 1 by omega] using this
                · simpa [hlt2, show ¬ i < j + 1 by omega] using this
        case measure => simp [intOf]; omega
      · obtain rfl : j = ts.length := by omega
        go_wp2
        go_ret
        obtain ⟨⟨f, hf, hff⟩, hs⟩ := HR'.out
        refine ⟨rfl, .inr ⟨g, G, sv, cap, by rw [mTs_len], by rw [mTs_len]; exact hl, by unfold maxLen; omega, ⟨⟨f, hf, fun i hi => ?_⟩, fun i hi => ?_⟩, by rw [mTs_len]; exact HA.out⟩, hwi⟩
        · rw [mTs_len] at hi
          obtain ⟨e1, e2⟩ := hff i hi
          rw [e1, e2, mTs_N _ _ hi]
          simp [hi]
        · rw [mTs_len] at hi
          have := hs i hi
          rw [mTs_S _ _ hi]
          simpa [hi] using this

/-- A set that holds the marks from k on. -/
def mSet (S : Set_) (k : Nat) : Set_ := ⟨mGs k S.gs.length, mTs S.ts (k + 2 * S.gs.length)⟩
/-- The mark behind it. -/
def mEnd (S : Set_) (k : Nat) : Nat := mK S.ts (k + 2 * S.gs.length) S.ts.length
theorem mEnd_le (S : Set_) (k : Nat) (hs : S.small) : k ≤ mEnd S k ∧ mEnd S k ≤ k + 1099514773504 := by
  have := mK_le S.ts (k + 2 * S.gs.length) S.ts.length hs.tn
  have := hs.gl
  have := hs.tl
  unfold mEnd
  omega

theorem markTileSet_any (lo hi : Nat) (vg vt : Value) (S : Set_) (k : Nat) (w : World) (h : OwnSet w lo hi vg vt S) (hs : S.small) (h1 : 1 ≤ k) (h2 : k ≤ 17592186044416) (hw : hi ≤ w.heap.size) :
    Calls Tryd.prog 23 #[.agg #[vg, vt], .int .i64 (k : Int)] w fun e w' => e = .returned (.int .i64 (mEnd S k : Int)) ∧ OwnSet w' lo hi vg vt (mSet S k) ∧ Within lo hi w w' := by
  obtain ⟨a, b, c, d, h3, h4, h5, h6, h7, h8, h9⟩ := h
  have HG := Lib.hid h8
  have HT := Lib.hid h9
  have hgl := hs.gl
  have htl := hs.tl
  clear h8 h9
  go_enter Tryd.func23, Tryd.ntmps23
  go_wp2_with fail
  have hal : Below w.heap.size w (w.alloc (.cells #[vg, vt] 38)) := by (repeat (first | exact Below.refl _ _ | refine Below.setCell ?_ (by first | (simp; done) | (simp; omega) | omega) _ | refine belowN ?_ _ | refine Below.drew ?_ | refine Below.alloc ?_ (by first | (simp; done) | (simp; omega) | omega) _ | refine Below.trans ?_ (Below.mono (by assumption) (by first | (simp; done) | (simp; omega) | omega))))
  have W0 : Within lo hi w (w.alloc (.cells #[vg, vt] 38)) := Within.of hal
  refine (markGlueS_any a b vg S.gs k _ (HG.out.keep (Within.of (lo := 0) (hi := 0) hal) (.inr (Nat.zero_le _))) hgl h1 (by omega)).mono ?_
  rintro e w1 ⟨rfl, hg1, hw1⟩
  have W1 : Within lo hi w w1 := W0.trans (hw1.mono h3 h4)
  have k0 : w1.cell? ⟨w.heap.size, 0, none⟩ = some vg := by rw [World.cell?_of_block (hw1.block w.heap.size (by simp) (.inr (by omega)))]; simp [go_sem]
  have k1 : w1.cell? ⟨w.heap.size, 1, none⟩ = some vt := by rw [World.cell?_of_block (hw1.block w.heap.size (by simp) (.inr (by omega)))]; simp [go_sem]
  have T1 := Lib.hid ((HT.out.keep (Within.of (lo := 0) (hi := 0) hal) (.inr (Nat.zero_le _))).keep hw1 (by omega))
  have G1 := Lib.hid hg1
  clear hw1 hg1 W0
  go_wp2_with fail
  refine (markTileS_any c d vt S.ts (k + 2 * S.gs.length) _ T1.out htl hs.tn (by omega) (by omega)).mono ?_
  rintro e w2 ⟨rfl, ht2, hw2⟩
  go_wp2
  go_ret
  exact ⟨rfl, ⟨a, b, c, d, h3, h4, h5, h6, h7, G1.out.keep hw2 (by omega), ht2⟩, W1.trans (hw2.mono h5 h6)⟩

theorem markTileSet_one (lo hi : Nat) (vg vt : Value) (S : Set_) (w : World) (h : OwnSet w lo hi vg vt S) (hs : S.small) (hw : hi ≤ w.heap.size) :
    Calls Tryd.prog 23 #[.agg #[vg, vt], .int .i64 1] w fun e w' => e = .returned (.int .i64 (mEnd S 1 : Int)) ∧ OwnSet w' lo hi vg vt (mSet S 1) ∧ Within lo hi w w' :=
  markTileSet_any lo hi vg vt S 1 w h hs (Nat.le_refl _) (by omega) hw
/-- The mark behind so many numbers. -/
def iEnd (n : Nat) : Nat := 1 + n
theorem markInt64S_one (g : Nat) (v : Value) (zs : List Int) (w : World) (h : OwnAt w g v zs) (hz : zs.length ≤ 1048576) :
    Calls Tryd.prog 35 #[v, .int .i64 1] w fun e w' => e = .returned (.int .i64 (iEnd zs.length : Int)) ∧ OwnAt w' g v (mInts 1 zs.length) ∧ Within g (g + 1) w w' :=
  markInt64S_any g v zs 1 w h hz (by omega)
theorem heldInt64S_one (v : Value) (n : Nat) (w : World) (h : Ints w v (mInts 1 n)) (hz : n ≤ 1048576) :
    Calls Tryd.prog 36 #[v, .int .i64 1] w fun e w' => e = .returned (.int .i64 (iEnd n : Int)) ∧ w = w' :=
  heldInt64S_yes v 1 n w h hz (by omega)

end Go.Proofs.YtnofbeeihdgmdaaDoor
