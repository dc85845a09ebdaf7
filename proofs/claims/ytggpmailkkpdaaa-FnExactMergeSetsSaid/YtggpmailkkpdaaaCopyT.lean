/-
  The program's copy of a list of tiles. Conditions: the theorem's own.
-/
import Derived.Test.YtggpmailkkpdaaaRen
import Derived.Test.YtggpmailkkpdaaaStep_
namespace Go.Proofs.Ytggpmailkkpdaaa
open Go.RowKit

/-- A call that returns a list of these tiles, built in its own memory. -/
def RowT (W : World) (ts : List Tl) (e : Ending) (w' : World) : Prop := ∃ v, e = .returned v ∧ Built w' W.heap.size v ts.length (tN ts) (tS ts)
theorem built_len {w : World} {base : Nat} {tv : Value} {n : Nat} {N : Nat → ByteArray} {Z : Nat → List Int} (h : Built w base tv n N Z) : ∃ a c, tv = .slice a n c := by
  obtain ⟨G, sv, h1, -⟩ := h
  rcases h1.2 with ⟨rfl, rfl⟩ | ⟨g, cap, cur, rfl, _⟩
  · exact ⟨_, _, rfl⟩
  · exact ⟨_, _, rfl⟩
/-- One tile more, in a world where the row's value stood as a slot. -/
theorem Built.more {w w3 w4 : World} {base k : Nat} {tv : Value} {N : Nat → ByteArray} {Z : Nat → List Int} {s : ByteArray} {zs : List Int} {x : Value} {b g cap : Nat} {o : Obj} {G : Nat → Nat} {sv : Nat → Value}
    (h1 : w.ownsRow base 64 2 tv k (tRow N sv k)) (h2 : ∀ i, i < k → OwnAt w (G i) (sv i) (Z i)) (h3 : ∀ i, i < k → base ≤ G i ∧ G i < w.heap.size ∧ tv.ownBlock ≠ some (G i)) (h4 : ∀ i j, i < j → j < k → G i ≠ G j)
    (hb3 : Below w.heap.size w w3) (hx : OwnAt w3 b x zs) (hb0 : w.heap.size ≤ b) (hb1 : b < w3.heap.size) (hbase : base ≤ w.heap.size)
    (hown : w4.ownsRow base 64 2 (.slice (some ⟨g, 0, none⟩) (k + 1) cap) (k + 1) (tRow N sv k ++ [.string s, x])) (hgrow : (w3.alloc o).grownBy w4 tv.ownBlock) (hat : tv.ownBlock = some g ∨ g = w3.heap.size + 1) (hN : N k = s) (hZ : Z k = zs) :
    Built w4 base (.slice (some ⟨g, 0, none⟩) (k + 1) cap) (k + 1) N Z ∧ Below base w w4 := by
  have ng := own_block_ge h1
  have hlt := own_block_lt h1
  have hs3 := hb3.size
  have hBA : Below w.heap.size w (w3.alloc o) := by (repeat (first | exact Below.refl _ _ | refine Below.setCell ?_ (by first | (simp; done) | (simp; omega) | omega) _ | refine belowN ?_ _ | refine Below.drew ?_ | refine Below.alloc ?_ (by first | (simp; done) | (simp; omega) | omega) _ | refine Below.trans ?_ (Below.mono (by assumption) (by first | (simp; done) | (simp; omega) | omega))))
  have hB3 : Below w3.heap.size w3 (w3.alloc o) := by (repeat (first | exact Below.refl _ _ | refine Below.setCell ?_ (by first | (simp; done) | (simp; omega) | omega) _ | refine belowN ?_ _ | refine Below.drew ?_ | refine Below.alloc ?_ (by first | (simp; done) | (simp; omega) | omega) _ | refine Below.trans ?_ (Below.mono (by assumption) (by first | (simp; done) | (simp; omega) | omega))))
  constructor
  · refine (Built.step (w := w3.alloc o) (tv := tv) (fun i hi => (h2 i hi).keep (Within.of (lo := 0) (hi := 0) hBA) (.inr (Nat.zero_le _))) (fun i hi => ⟨(h3 i hi).1, Nat.lt_of_lt_of_le (h3 i hi).2.1 hBA.size, (h3 i hi).2.2⟩) h4
      (hx.keep (Within.of (lo := 0) (hi := 0) hB3) (.inr (Nat.zero_le _))) (by omega) (Nat.lt_of_lt_of_le hb1 hB3.size) (fun e => by have := hlt _ e; omega) (fun i hi e => by have := (h3 i hi).2.1; omega) hown hgrow (hat.imp id (fun e => by subst e; simp))).congr ?_ ?_
    · intro i hi
      split
      · next e => subst e; exact hN.symm
      · rfl
    · intro i hi
      split
      · next e => subst e; exact hZ.symm
      · rfl
  · have hBc : Below base w (w3.alloc o) := hBA.mono hbase
    have hBg : Below base (w3.alloc o) w4 := ⟨hgrow.os, hgrow.tape, hgrow.output, hgrow.size, fun i hi => hgrow.block i (by simp; omega) (fun e => by have := ng _ e.symm; omega)⟩
    exact hBc.trans hBg

set_option maxRecDepth 100000 in
set_option maxHeartbeats 4000000 in
set_option linter.unusedSimpArgs false in
theorem copyTiles_any (v : Value) (ts : List Tl) (w : World) (hv : Tiles w v ts) (h4 : ∀ k, k < ts.length → (tS ts k).length = 4) (hz : ts.length ≤ 1000) :
    Calls Try.prog 76 #[v] w fun e w' => RowT w ts e w' ∧ Below w.heap.size w w' := by
  have HV := Lib.hid hv
  have H4 := Lib.hid h4
  obtain ⟨sv0, ⟨ao0, cap0, rfl, hl0, hm0, -⟩, -⟩ := hv
  unfold maxLen at hm0
  obtain ⟨i0, hi, hz0, hz1, hz2⟩ := info_parts info_tile
  clear h4
  go_enter Try.func76, Try.ntmps76
  go_wp2_with fail
  go_loopw [3, 8] (fun m i wr => ∃ (k : Nat) (tv : Value), k ≤ ts.length ∧ i = .int .i64 k ∧ tv = m ∧ Hid (Built wr w.heap.size tv k (tN ts) (tS ts)) ∧ Below w.heap.size w wr) (fun _ i _ => ts.length - (intOf i).toNat)
  case atStart => exact ⟨0, _, by omega, rfl, rfl, Lib.hid (Built.nil _ _ _ _), by (repeat (first | exact Below.refl _ _ | refine Below.setCell ?_ (by first | (simp; done) | (simp; omega) | omega) _ | refine belowN ?_ _ | refine Below.drew ?_ | refine Below.alloc ?_ (by first | (simp; done) | (simp; omega) | omega) _ | refine Below.trans ?_ (Below.mono (by assumption) (by first | (simp; done) | (simp; omega) | omega))))⟩
  case round =>
    obtain ⟨k, tv, hk, rfl, rfl, hB, hbw⟩ := hrel
    have sw := hbw.size
    by_cases hlt : k < ts.length
    · obtain ⟨b, off, cap, hvt, hl3, hmx3, hc⟩ := tiles_open HV.out (by omega)
      obtain ⟨b2, o2, c, c0, c1, hc4, hcm, hcc⟩ := hc k hlt (H4.out k hlt)
      have hsd := H4.out k hlt
      simp at hvt
      obtain ⟨rfl, rfl⟩ := hvt
      have d0 := cell_below hbw c0
      have d1 := cell_below hbw c1
      have HI : Hid (Ints wr (.slice (some ⟨b2, o2, none⟩) 4 c) (tS ts k)) := Lib.hid ⟨_, c, by rw [hsd], by omega, hcm, fun _ => ⟨b2, o2, rfl, fun i j hi hj => by
        obtain rfl : j = 0 := by omega
        simpa using cell_below hbw (hcc i (by omega))⟩⟩
      clear hc c0 c1 hcc
      obtain ⟨ta, tc, rfl⟩ := built_len hB.out
      obtain ⟨G, sv, hrow, hside, hdist, hinj⟩ := hB.out
      have HROW := Lib.hid hrow
      have HSD := Lib.hid hside
      have HDI := Lib.hid hdist
      have HIN := Lib.hid hinj
      clear hrow hside hdist hinj
      have hsd1 : 0 < (tS ts k).length := by omega
      have hsd2 : (tS ts k).length ≤ 1048576 := by omega
      go_wp2_with (first
        | (go_at_call 51; refine (makeTile_any (tN ts k) _ (tS ts k) _ (HI.out.below (by (repeat (first | exact Below.refl _ _ | refine Below.setCell ?_ (by first | (simp; done) | (simp; omega) | omega) _ | refine belowN ?_ _ | refine Below.drew ?_ | refine Below.alloc ?_ (by first | (simp; done) | (simp; omega) | omega) _ | refine Below.trans ?_ (Below.mono (by assumption) (by first | (simp; done) | (simp; omega) | omega)))))) hsd1 hsd2).mono ?_; rintro e w3 ⟨⟨mc, mb, mf, rfl, hmb, hml, hmm, hmr, hmz⟩, hb3⟩; have C3 := Lib.hid (show Below wr.heap.size wr w3 by (repeat (first | exact Below.refl _ _ | refine Below.setCell ?_ (by first | (simp; done) | (simp; omega) | omega) _ | refine belowN ?_ _ | refine Below.drew ?_ | refine Below.alloc ?_ (by first | (simp; done) | (simp; omega) | omega) _ | refine Below.trans ?_ (Below.mono (by assumption) (by first | (simp; done) | (simp; omega) | omega))))); have s3 := C3.out.size; have hmb' : wr.heap.size + 1 ≤ mb := (by simp at hmb; omega))
        | (at_builtin; refine wpList_append_lies _ rfl _ _ 28 rfl w.heap.size 64 i0 _ 2 40 Try.underlying28 hi hz0 hz1 hz2 rfl (by omega) _ k (tRow (tN ts) sv k) rfl (ownsRow_keep HROW.out (show Below wr.heap.size wr _ by (repeat (first | exact Below.refl _ _ | refine Below.setCell ?_ (by first | (simp; done) | (simp; omega) | omega) _ | refine belowN ?_ _ | refine Below.drew ?_ | refine Below.alloc ?_ (by first | (simp; done) | (simp; omega) | omega) _ | refine Below.trans ?_ (Below.mono (by assumption) (by first | (simp; done) | (simp; omega) | omega)))))) ⟨w3.heap.size, 0, none⟩ 1 1 [.string (tN ts k), .slice (some ⟨mb, 0, none⟩) 4 mc] rfl rfl (World.news_of_block (cs := #[.string (tN ts k), .slice (some ⟨mb, 0, none⟩) 4 mc]) (t := 64) (fr := (0, 0)) (heap_alloc_new w3 _)) (by simp [Value.oneCell']) (by omega) (maxLen_of (by omega)) (by omega) (by first | (simp; done) | (simp; omega) | omega) (w3.heap.size + 1) (by simp) ?_; intro gg cap' w4 hown4 hgrow4 hat4 hlt4; have HO4 := Lib.hid hown4; have HG4 := Lib.hid hgrow4; clear hown4 hgrow4))
      go_roundw
      case rel =>
        obtain ⟨r1, r2⟩ := Built.more (N := tN ts) (Z := tS ts) HROW.out HSD.out HDI.out HIN.out C3.out (by have := OwnAt.made hml hmm hmr hmz; rw [hsd] at this; exact this) (by omega) hmr.lt sw HO4.out HG4.out hat4 rfl rfl
        exact ⟨k + 1, _, by omega, by go_num, rfl, Lib.hid r1, hbw.trans r2⟩
      case measure => simp [intOf]; omega
    · obtain rfl : k = ts.length := by omega
      go_wp2_with fail
      go_ret
      exact ⟨⟨_, rfl, hB.out⟩, hbw⟩

end Go.Proofs.Ytggpmailkkpdaaa
