/-
  The laws' own copies: each lays its numbers, glues or tiles in new blocks, one for each list, and leaves all older memory as it was. Conditions: each theorem's own.
-/
import Derived.Test.YtnofbeeihdgmdaaDoorSz
import Derived.Deep.OwnRows
import Derived.Deep.RegionHeld3
namespace Go.Proofs.YtnofbeeihdgmdaaDoor
open Go.RowKit

def zeroI (n : Nat) : Array Value := madeCells #[.int .i64 0] n
theorem info_i64 : (Tryd.prog.info? 2).map (fun i => (i.zero, i.size, i.bytes)) = some (some (.int .i64 0), 1, 8) := by kernel_rfl
theorem mk_i64 (n : Nat) (hn : n ≤ 1048576) (w : World) : (Instr.makeSlice 58 (.int .i64 (n : Int)) (.int .i64 (n : Int))).run Tryd.prog w = .ok (.slice (some ⟨w.heap.size, 0, none⟩) n n) (w.alloc (.cells (zeroI n) 2)) :=
  run_make_row' 58 2 (.int .i64 0) 8 Tryd.underlying58 info_i64 rfl .i64 .i64 n (by omega) (by omega) w

/-- What a row of n numbers holds when k of them are laid. -/
def iPart (zs : List Int) (k j : Nat) : Value := if j < k then .int .i64 (iAt zs j) else .int .i64 0

/-- v is a slice of these numbers in a block of its own, which is g. -/
def OwnI (w : World) (g : Nat) (v : Value) (zs : List Int) : Prop := v = .slice (some ⟨g, 0, none⟩) zs.length zs.length ∧ w.rowIs g 2 zs.length (fun j => .int .i64 (iAt zs j))
theorem OwnI.ints {w : World} {g : Nat} {v : Value} {zs : List Int} (h : OwnI w g v zs) (hz : zs.length ≤ maxLen) : Ints w v zs := by
  obtain ⟨rfl, hr⟩ := h
  refine ⟨_, _, rfl, Nat.le_refl _, hz, fun _ => ⟨g, 0, rfl, fun i j hi hj => ?_⟩⟩
  obtain rfl : j = 0 := by omega
  simpa using hr.cell hi

set_option maxHeartbeats 400000 in
theorem toInt64S_any (v : Value) (zs : List Int) (w : World) (hv : Ints w v zs) (hz : zs.length ≤ 1048576) :
    Calls Tryd.prog 30 #[v] w fun e w' => (∃ v', e = .returned v' ∧ OwnI w' w.heap.size v' zs) ∧ Below w.heap.size w w' := by
  obtain ⟨ao, cap, rfl, hl, hm, hc⟩ := hv
  unfold maxLen at hm
  have H0 := Lib.hid hc
  have hmk := mk_i64 zs.length hz
  clear hc
  go_enter Tryd.func30, Tryd.ntmps30
  go_wp2_with fail
  go_loopw [4] (fun i wr => ∃ k : Nat, k ≤ zs.length ∧ i = .int .i64 k ∧ wr.rowIs w.heap.size 2 zs.length (iPart zs k) ∧ Below w.heap.size w wr) (fun i _ => zs.length - (intOf i).toNat)
  case atStart =>
    refine ⟨0, by omega, rfl, ?_, by (repeat (first | exact Below.refl _ _ | refine Below.setCell ?_ (by first | (simp; done) | (simp; omega) | omega) _ | refine belowN ?_ _ | refine Below.drew ?_ | refine Below.alloc ?_ (by first | (simp; done) | (simp; omega) | omega) _ | refine Below.trans ?_ (Below.mono (by assumption) (by first | (simp; done) | (simp; omega) | omega))))⟩
    exact (World.rowIs_made w (.int .i64 0) zs.length 2).congr fun i _ => by simp [iPart]
  case round =>
    obtain ⟨k, hk, rfl, hrow, hbw⟩ := hrel
    by_cases hlt : k < zs.length
    · obtain ⟨b, off, rfl, H1⟩ := H0.out (by omega)
      have c0 := cell_below hbw (H1 k 0 hlt (by omega))
      simp at c0
      clear H1
      have d0 := hrow.cell hlt
      have d1 := hrow.frozen k
      go_wp2
      go_roundw
      case rel =>
        refine ⟨k + 1, by omega, by go_num, ?_, by (repeat (first | exact Below.refl _ _ | refine Below.setCell ?_ (by first | (simp; done) | (simp; omega) | omega) _ | refine belowN ?_ _ | refine Below.drew ?_ | refine Below.alloc ?_ (by first | (simp; done) | (simp; omega) | omega) _ | refine Below.trans ?_ (Below.mono (by assumption) (by first | (simp; done) | (simp; omega) | omega))))⟩
        exact (hrow.set k _).congr fun i _ => by simp only [iPart]; split <;> (try split) <;> (try split) <;> simp_all <;> omega
      case measure => simp [intOf]; omega
    · obtain rfl : k = zs.length := by omega
      go_wp2
      go_ret
      exact ⟨⟨_, rfl, rfl, hrow.congr fun i hi => by simp [iPart, hi]⟩, hbw⟩

theorem toGlue_any (s : ByteArray) (x : Int) (w : World) :
    Calls Tryd.prog 74 #[.agg #[.string s, .int .i64 x]] w fun e w' => e = .returned (.agg #[.string s, .int .i64 x]) ∧ Below w.heap.size w w' := by
  go_enter Tryd.func74, Tryd.ntmps74
  go_wp2
  exact bodyPost_ret (v := .agg #[.string s, .int .i64 x]) (by simp [results, Tryd.results74, go_sem]) rfl ⟨rfl, by (repeat (first | exact Below.refl _ _ | refine Below.setCell ?_ (by first | (simp; done) | (simp; omega) | omega) _ | refine belowN ?_ _ | refine Below.drew ?_ | refine Below.alloc ?_ (by first | (simp; done) | (simp; omega) | omega) _ | refine Below.trans ?_ (Below.mono (by assumption) (by first | (simp; done) | (simp; omega) | omega))))⟩

def noText : ByteArray := ⟨#[]⟩
def zeroG (n : Nat) : Array Value := madeCells #[.string noText, .int .i64 0] (n * 2)
theorem info_glue : (Tryd.prog.info? 113).map (fun i => (i.zero, i.size, i.bytes)) = some (some (.agg #[.string noText, .int .i64 0]), 2, 24) := by kernel_rfl
theorem mk_glue (n : Nat) (hn : n ≤ 1048576) (w : World) : (Instr.makeSlice 35 (.int .i64 (n : Int)) (.int .i64 (n : Int))).run Tryd.prog w = .ok (.slice (some ⟨w.heap.size, 0, none⟩) n n) (w.alloc (.cells (zeroG n) 113)) :=
  run_make2 35 113 _ _ 24 Tryd.underlying35 info_glue n (by omega) (by omega) w

/-- Cell j of a row of glues. -/
def gCell (gs : List Gl) (j : Nat) : Value := if j % 2 = 0 then .string (gN gs (j / 2)) else .int .i64 (gS gs (j / 2))
/-- What a row of n glues holds when k of them are laid. -/
def gPart (gs : List Gl) (k j : Nat) : Value := if j < k * 2 then gCell gs j else if j % 2 = 0 then .string noText else .int .i64 0
/-- v is a slice of these glues in a block of its own, which is g. -/
def OwnG (w : World) (g : Nat) (v : Value) (gs : List Gl) : Prop := v = .slice (some ⟨g, 0, none⟩) gs.length gs.length ∧ w.rowIs g 113 (gs.length * 2) (gCell gs)
theorem OwnG.glues {w : World} {g : Nat} {v : Value} {gs : List Gl} (h : OwnG w g v gs) (hz : gs.length ≤ maxLen) : Glues w v gs := by
  obtain ⟨rfl, hr⟩ := h
  refine ⟨_, _, rfl, Nat.le_refl _, hz, fun _ => ⟨g, 0, rfl, fun i j hi hj => ?_⟩⟩
  have := hr.cell (i := i * 2 + j) (by omega)
  rw [show 0 + i * 2 + j = i * 2 + j by omega, this]
  simp only [gCell]
  by_cases h0 : j = 0
  · subst h0; simp
  · obtain rfl : j = 1 := by omega
    simp [show (i * 2 + 1) % 2 = 1 by omega, show (i * 2 + 1) / 2 = i by omega]

theorem gPart_step (gs : List Gl) (k i : Nat) : (if i = k * 2 + 1 then Value.int .i64 (gS gs k) else if i = k * 2 then .string (gN gs k) else gPart gs k i) = gPart gs (k + 1) i := by
  simp only [gPart]
  by_cases h1 : i = k * 2 + 1
  · subst h1
    rw [if_pos rfl, if_pos (show k * 2 + 1 < (k + 1) * 2 by omega)]
    simp [gCell, show (k * 2 + 1) % 2 = 1 by omega, show (k * 2 + 1) / 2 = k by omega]
  · rw [if_neg h1]
    by_cases h2 : i = k * 2
    · subst h2
      rw [if_pos rfl, if_pos (show k * 2 < (k + 1) * 2 by omega)]
      simp [gCell]
    · rw [if_neg h2]
      by_cases h3 : i < k * 2
      · rw [if_pos h3, if_pos (show i < (k + 1) * 2 by omega)]
      · rw [if_neg h3, if_neg (show ¬ i < (k + 1) * 2 by omega)]

set_option maxHeartbeats 400000 in
theorem toGlueS_any (v : Value) (gs : List Gl) (w : World) (hv : Glues w v gs) (hz : gs.length ≤ 1048576) :
    Calls Tryd.prog 44 #[v] w fun e w' => (∃ v', e = .returned v' ∧ OwnG w' w.heap.size v' gs) ∧ Below w.heap.size w w' := by
  obtain ⟨ao, cap, rfl, hl, hm, hc⟩ := hv
  unfold maxLen at hm
  have H0 := Lib.hid hc
  have hmk := mk_glue gs.length hz
  clear hc
  go_enter Tryd.func44, Tryd.ntmps44
  go_wp2_with fail
  go_loopw [4] (fun i wr => ∃ k : Nat, k ≤ gs.length ∧ i = .int .i64 k ∧ wr.rowIs w.heap.size 113 (gs.length * 2) (gPart gs k) ∧ Below w.heap.size w wr) (fun i _ => gs.length - (intOf i).toNat)
  case atStart =>
    refine ⟨0, by omega, rfl, ?_, by (repeat (first | exact Below.refl _ _ | refine Below.setCell ?_ (by first | (simp; done) | (simp; omega) | omega) _ | refine belowN ?_ _ | refine Below.drew ?_ | refine Below.alloc ?_ (by first | (simp; done) | (simp; omega) | omega) _ | refine Below.trans ?_ (Below.mono (by assumption) (by first | (simp; done) | (simp; omega) | omega))))⟩
    exact (rowIs_made2 w (.string noText) (.int .i64 0) gs.length 113).congr fun i _ => by simp [gPart]
  case round =>
    obtain ⟨k, hk, rfl, hrow, hbw⟩ := hrel
    by_cases hlt : k < gs.length
    · obtain ⟨b, off, rfl, H1⟩ := H0.out (by omega)
      have c0 := cell_below hbw (H1 k 0 hlt (by omega))
      have c1 := cell_below hbw (H1 k 1 hlt (by omega))
      simp at c0 c1
      clear H1
      have hlr := hrow.lt
      go_wp2_with fail
      refine (toGlue_any (gN gs k) (gS gs k) _).mono ?_
      rintro e w1 ⟨rfl, hb1⟩
      have hrow1 : w1.rowIs w.heap.size 113 (gs.length * 2) (gPart gs k) := hrow.of_block (hb1.block _ hlr)
      have d0 := hrow1.cell (i := k * 2) (by omega)
      have d1 := hrow1.cell (i := k * 2 + 1) (by omega)
      have f0 := hrow1.frozen (k * 2)
      have f1 := hrow1.frozen (k * 2 + 1)
      go_wp2
      go_roundw
      case rel =>
        refine ⟨k + 1, by omega, by go_num, ?_, by (repeat (first | exact Below.refl _ _ | refine Below.setCell ?_ (by first | (simp; done) | (simp; omega) | omega) _ | refine belowN ?_ _ | refine Below.drew ?_ | refine Below.alloc ?_ (by first | (simp; done) | (simp; omega) | omega) _ | refine Below.trans ?_ (Below.mono (by assumption) (by first | (simp; done) | (simp; omega) | omega))))⟩
        exact ((hrow1.set (k * 2) _).set (k * 2 + 1) _).congr fun i _ => gPart_step gs k i
      case measure => simp [intOf]; omega
    · obtain rfl : k = gs.length := by omega
      go_wp2
      go_ret
      exact ⟨⟨_, rfl, rfl, hrow.congr fun i hi => by simp [gPart, hi]⟩, hbw⟩

theorem toTile_any (s : ByteArray) (v : Value) (zs : List Int) (w : World) (hv : Ints w v zs) (hz : zs.length ≤ 1048576) :
    Calls Tryd.prog 75 #[.agg #[.string s, v]] w fun e w' => (∃ g, e = .returned (.agg #[.string s, .slice (some ⟨g, 0, none⟩) zs.length zs.length]) ∧ w.heap.size ≤ g ∧ OwnI w' g (headOf g zs.length) zs) ∧ Below w.heap.size w w' := by
  go_enter Tryd.func75, Tryd.ntmps75
  go_wp2_with fail
  refine (toInt64S_any v zs _ (hv.below (by (repeat (first | exact Below.refl _ _ | refine Below.setCell ?_ (by first | (simp; done) | (simp; omega) | omega) _ | refine belowN ?_ _ | refine Below.drew ?_ | refine Below.alloc ?_ (by first | (simp; done) | (simp; omega) | omega) _ | refine Below.trans ?_ (Below.mono (by assumption) (by first | (simp; done) | (simp; omega) | omega)))))) hz).mono ?_
  rintro e w1 ⟨⟨v', rfl, rfl, hrow⟩, hb1⟩
  obtain ⟨hc1, hf1, hl1, -⟩ := bfull hb1
  have s1 := hb1.size
  simp at s1 hrow
  have hlt := hrow.lt
  go_wp2
  refine bodyPost_ret (v := .agg #[.string s, headOf (w.heap.size + 1 + 1 + 1) zs.length]) ?_ rfl ⟨⟨_, rfl, by omega, rfl, ?_⟩, by (repeat (first | exact Below.refl _ _ | refine Below.setCell ?_ (by first | (simp; done) | (simp; omega) | omega) _ | refine belowN ?_ _ | refine Below.drew ?_ | refine Below.alloc ?_ (by first | (simp; done) | (simp; omega) | omega) _ | refine Below.trans ?_ (Below.mono (by assumption) (by first | (simp; done) | (simp; omega) | omega))))⟩
  · simp [results, Tryd.results75, go_sem, headOf, hc1]
  · exact ((hrow.setOther (by first | (simp; done) | (simp; omega)) _).setOther (by first | (simp; done) | (simp; omega)) _).setOther (by first | (simp; done) | (simp; omega)) _

def zeroT (n : Nat) : Array Value := madeCells #[.string noText, .slice none 0 0] (n * 2)
theorem info_tile : (Tryd.prog.info? 115).map (fun i => (i.zero, i.size, i.bytes)) = some (some (.agg #[.string noText, .slice none 0 0]), 2, 40) := by kernel_rfl
theorem mk_tile (n : Nat) (hn : n ≤ 1048576) (w : World) : (Instr.makeSlice 36 (.int .i64 (n : Int)) (.int .i64 (n : Int))).run Tryd.prog w = .ok (.slice (some ⟨w.heap.size, 0, none⟩) n n) (w.alloc (.cells (zeroT n) 115)) :=
  run_make2 36 115 _ _ 40 Tryd.underlying36 info_tile n (by omega) (by omega) w

/-- Cell j of a row of tiles, the sides of tile i at the head of block G i. -/
def tCell (ts : List Tl) (G : Nat → Nat) (j : Nat) : Value := if j % 2 = 0 then .string (tN ts (j / 2)) else headOf (G (j / 2)) (tS ts (j / 2)).length
/-- What a row of n tiles holds when k of them are laid. -/
def tPart (ts : List Tl) (G : Nat → Nat) (k j : Nat) : Value := if j < k * 2 then tCell ts G j else if j % 2 = 0 then .string noText else .slice none 0 0
/-- The first k tiles' sides lie each in a block of its own, one behind the other, all behind block g. -/
def SidesIn (w : World) (g : Nat) (ts : List Tl) (G : Nat → Nat) (k : Nat) : Prop :=
  ∀ i, i < k → g < G i ∧ (∀ j, j < i → G j < G i) ∧ w.rowIs (G i) 2 (tS ts i).length (fun j => .int .i64 (iAt (tS ts i) j))
/-- v is a slice of these tiles in blocks of their own, the first of which is g. -/
def OwnT (w : World) (g : Nat) (v : Value) (ts : List Tl) : Prop := v = headOf g ts.length ∧ ∃ G, w.rowIs g 115 (ts.length * 2) (tCell ts G) ∧ SidesIn w g ts G ts.length
theorem SidesIn.keep {w w1 : World} {g : Nat} {ts : List Tl} {G : Nat → Nat} {k : Nat} (h : SidesIn w g ts G k) (hb : ∀ b, g < b → b < w.heap.size → w1.heap[b]? = w.heap[b]?) : SidesIn w1 g ts G k := fun i hi =>
  let ⟨h1, h2, h3⟩ := h i hi
  ⟨h1, h2, h3.of_block (hb _ h1 h3.lt)⟩
theorem tPart_step (ts : List Tl) (G : Nat → Nat) (k gk i : Nat) :
    (if i = k * 2 + 1 then headOf gk (tS ts k).length else if i = k * 2 then .string (tN ts k) else tPart ts G k i) = tPart ts (fun i => if i = k then gk else G i) (k + 1) i := by
  simp only [tPart]
  by_cases h1 : i = k * 2 + 1
  · subst h1
    rw [if_pos rfl, if_pos (show k * 2 + 1 < (k + 1) * 2 by omega)]
    simp [tCell, show (k * 2 + 1) % 2 = 1 by omega, show (k * 2 + 1) / 2 = k by omega]
  · rw [if_neg h1]
    by_cases h2 : i = k * 2
    · subst h2
      rw [if_pos rfl, if_pos (show k * 2 < (k + 1) * 2 by omega)]
      simp [tCell]
    · rw [if_neg h2]
      by_cases h3 : i < k * 2
      · rw [if_pos h3, if_pos (show i < (k + 1) * 2 by omega)]
        simp only [tCell]
        rw [if_neg (show ¬ i / 2 = k by omega)]
      · rw [if_neg h3, if_neg (show ¬ i < (k + 1) * 2 by omega)]
theorem SidesIn.step {w : World} {g : Nat} {ts : List Tl} {G : Nat → Nat} {k gk : Nat} (h : SidesIn w g ts G k) (hg : g < gk) (hG : ∀ i, i < k → G i < gk) (hr : w.rowIs gk 2 (tS ts k).length (fun j => .int .i64 (iAt (tS ts k) j))) :
    SidesIn w g ts (fun i => if i = k then gk else G i) (k + 1) := fun i hi => by
  by_cases h' : i = k
  · subst h'
    simp only [if_true]
    exact ⟨hg, fun j hj => by rw [if_neg (by omega)]; exact hG j hj, hr⟩
  · simp only [if_neg h']
    obtain ⟨a, b, c⟩ := h i (by omega)
    exact ⟨a, fun j hj => by rw [if_neg (by omega)]; exact b j hj, c⟩
theorem OwnT.tiles {w : World} {g : Nat} {v : Value} {ts : List Tl} (h : OwnT w g v ts) (hz : ts.length ≤ maxLen) (hs : ∀ i, i < ts.length → (tS ts i).length ≤ maxLen) : Tiles w v ts := by
  obtain ⟨rfl, G, hr, hG⟩ := h
  refine ⟨fun i => headOf (G i) (tS ts i).length, ⟨_, _, rfl, Nat.le_refl _, hz, fun _ => ⟨g, 0, rfl, fun i j hi hj => ?_⟩⟩, fun i hi => OwnI.ints ⟨rfl, (hG i hi).2.2⟩ (hs i hi)⟩
  have := hr.cell (i := i * 2 + j) (by omega)
  rw [show 0 + i * 2 + j = i * 2 + j by omega, this]
  simp only [tCell]
  by_cases h0 : j = 0
  · subst h0; simp
  · obtain rfl : j = 1 := by omega
    simp [show (i * 2 + 1) % 2 = 1 by omega, show (i * 2 + 1) / 2 = i by omega]

set_option maxHeartbeats 800000 in
theorem toTileS_any (v : Value) (ts : List Tl) (w : World) (hv : Tiles w v ts) (hz : ts.length ≤ 1048576) (hu : tUpTo ts ts.length) :
    Calls Tryd.prog 45 #[v] w fun e w' => (∃ v', e = .returned v' ∧ OwnT w' w.heap.size v' ts) ∧ Below w.heap.size w w' := by
  obtain ⟨sv, ⟨ao, cap, rfl, hl, hm, hc⟩, hsv⟩ := hv
  unfold maxLen at hm
  have H0 := Lib.hid hc
  have HS := Lib.hid hsv
  have HU := Lib.hid hu
  have hmk := mk_tile ts.length hz
  clear hc hsv hu
  go_enter Tryd.func45, Tryd.ntmps45
  go_wp2_with fail
  go_loopw [4] (fun i wr => ∃ (k : Nat) (G : Nat → Nat), k ≤ ts.length ∧ i = .int .i64 k ∧ wr.rowIs w.heap.size 115 (ts.length * 2) (tPart ts G k) ∧ SidesIn wr w.heap.size ts G k ∧ Below w.heap.size w wr) (fun i _ => ts.length - (intOf i).toNat)
  case atStart =>
    refine ⟨0, fun _ => 0, by omega, rfl, ?_, fun i hi => by omega, by (repeat (first | exact Below.refl _ _ | refine Below.setCell ?_ (by first | (simp; done) | (simp; omega) | omega) _ | refine belowN ?_ _ | refine Below.drew ?_ | refine Below.alloc ?_ (by first | (simp; done) | (simp; omega) | omega) _ | refine Below.trans ?_ (Below.mono (by assumption) (by first | (simp; done) | (simp; omega) | omega))))⟩
    exact (rowIs_made2 w (.string noText) (.slice none 0 0) ts.length 115).congr fun i _ => by simp [tPart]
  case round =>
    obtain ⟨k, G, hk, rfl, hrow, hsi, hbw⟩ := hrel
    by_cases hlt : k < ts.length
    · obtain ⟨b, off, rfl, H1⟩ := H0.out (by omega)
      have c0 := cell_below hbw (H1 k 0 hlt (by omega))
      have c1 := cell_below hbw (H1 k 1 hlt (by omega))
      simp at c0 c1
      clear H1
      have hlr := hrow.lt
      have hI := Lib.hid ((HS.out k hlt).below hbw)
      have hk2 := (HU.out k hlt).2
      have HSI := Lib.hid hsi
      clear hsi
      go_wp2_with fail
      refine (toTile_any (tN ts k) (sv k) (tS ts k) _ hI.out hk2).mono ?_
      rintro e w1 ⟨⟨gk, rfl, hgk, -, hrk⟩, hb1⟩
      have hrow1 : w1.rowIs w.heap.size 115 (ts.length * 2) (tPart ts G k) := hrow.of_block (hb1.block _ hlr)
      have hsi1 := Lib.hid (HSI.out.keep (w1 := w1) (fun b _ hb => hb1.block b hb))
      have d0 := hrow1.cell (i := k * 2) (by omega)
      have d1 := hrow1.cell (i := k * 2 + 1) (by omega)
      have f0 := hrow1.frozen (k * 2)
      have f1 := hrow1.frozen (k * 2 + 1)
      have hGk : ∀ i, i < k → G i < gk := fun i hi => Nat.lt_of_lt_of_le (HSI.out i hi).2.2.lt hgk
      have HG := Lib.hid hGk
      clear hGk
      go_wp2
      go_roundw
      case rel =>
        refine ⟨k + 1, fun i => if i = k then gk else G i, by omega, by go_num, ?_, ?_, by (repeat (first | exact Below.refl _ _ | refine Below.setCell ?_ (by first | (simp; done) | (simp; omega) | omega) _ | refine belowN ?_ _ | refine Below.drew ?_ | refine Below.alloc ?_ (by first | (simp; done) | (simp; omega) | omega) _ | refine Below.trans ?_ (Below.mono (by assumption) (by first | (simp; done) | (simp; omega) | omega))))⟩
        · exact ((hrow1.set (k * 2) _).set (k * 2 + 1) _).congr fun i _ => tPart_step ts G k gk i
        · refine (hsi1.out.step (by omega) HG.out hrk).keep fun b hb _ => ?_
          rw [Deep.blk_setCell_other _ _ _ _ (by simp; omega), Deep.blk_setCell_other _ _ _ _ (by simp; omega)]
      case measure => simp [intOf]; omega
    · obtain rfl : k = ts.length := by omega
      go_wp2
      go_ret
      exact ⟨⟨_, rfl, rfl, G, hrow.congr fun i hi => by simp [tPart, hi], hsi⟩, hbw⟩

/-- The two slices of a set of tiles, in blocks of their own from lo on. -/
def SetOwn (w : World) (lo : Nat) (vg vt : Value) (S : Set_) : Prop := ∃ g t, lo ≤ g ∧ g < t ∧ OwnG w g vg S.gs ∧ OwnT w t vt S.ts
theorem SetOwn.setIn {w : World} {lo : Nat} {vg vt : Value} {S : Set_} (h : SetOwn w lo vg vt S) (hs : S.small) : SetIn w vg vt S :=
  let ⟨_, _, _, _, h1, h2⟩ := h
  ⟨h1.glues (maxLen_of hs.gl), h2.tiles (maxLen_of hs.tl) fun i hi => maxLen_of (hs.tn i hi).2⟩
theorem OwnG.keep {w w1 : World} {g : Nat} {v : Value} {gs : List Gl} (h : OwnG w g v gs) (hb : w1.heap[g]? = w.heap[g]?) : OwnG w1 g v gs := ⟨h.1, h.2.of_block hb⟩
theorem OwnT.keep {w w1 : World} {g : Nat} {v : Value} {ts : List Tl} (h : OwnT w g v ts) (hb : ∀ b, g ≤ b → b < w.heap.size → w1.heap[b]? = w.heap[b]?) : OwnT w1 g v ts :=
  let ⟨h1, G, h2, h3⟩ := h
  ⟨h1, G, h2.of_block (hb _ (Nat.le_refl _) h2.lt), h3.keep fun b hb1 hb2 => hb b (by omega) hb2⟩
theorem SetOwn.keep {w w1 : World} {lo : Nat} {vg vt : Value} {S : Set_} (h : SetOwn w lo vg vt S) (hb : ∀ b, lo ≤ b → b < w.heap.size → w1.heap[b]? = w.heap[b]?) : SetOwn w1 lo vg vt S :=
  let ⟨g, t, h1, h2, h3, h4⟩ := h
  ⟨g, t, h1, h2, h3.keep (hb _ h1 h3.2.lt), h4.keep fun b hb1 hb2 => hb b (by omega) hb2⟩

theorem toTileSet_any (vg vt : Value) (S : Set_) (w : World) (hS : SetIn w vg vt S) (hs : S.small) :
    Calls Tryd.prog 12 #[.agg #[vg, vt]] w fun e w' => (∃ ag at_, e = .returned (.agg #[ag, at_]) ∧ SetOwn w' w.heap.size ag at_ S) ∧ Below w.heap.size w w' := by
  go_enter Tryd.func12, Tryd.ntmps12
  go_wp2_with fail
  refine (toGlueS_any vg S.gs _ (hS.g.below (by (repeat (first | exact Below.refl _ _ | refine Below.setCell ?_ (by first | (simp; done) | (simp; omega) | omega) _ | refine belowN ?_ _ | refine Below.drew ?_ | refine Below.alloc ?_ (by first | (simp; done) | (simp; omega) | omega) _ | refine Below.trans ?_ (Below.mono (by assumption) (by first | (simp; done) | (simp; omega) | omega)))))) hs.gl).mono ?_
  rintro e w1 ⟨⟨ag, rfl, og⟩, hb1⟩
  obtain ⟨hc1, hf1, hl1, -⟩ := bfull hb1
  have s1 := hb1.size
  simp at s1 og
  have hgl := og.2.lt
  obtain ⟨rfl, og2⟩ := og
  go_wp2_with fail
  refine (toTileS_any vt S.ts _ (hS.t.below (by (repeat (first | exact Below.refl _ _ | refine Below.setCell ?_ (by first | (simp; done) | (simp; omega) | omega) _ | refine belowN ?_ _ | refine Below.drew ?_ | refine Below.alloc ?_ (by first | (simp; done) | (simp; omega) | omega) _ | refine Below.trans ?_ (Below.mono (by assumption) (by first | (simp; done) | (simp; omega) | omega)))))) hs.tl hs.tn).mono ?_
  rintro e w2 ⟨⟨at_, rfl, ot⟩, hb2⟩
  obtain ⟨hc2, hf2, hl2, -⟩ := bfull hb2
  have s2 := hb2.size
  simp at s2 ot
  obtain ⟨rfl, ot2⟩ := ot
  have k0 : w2.cell? ⟨w.heap.size + 1 + 1, 0, none⟩ = some (.slice (some ⟨w.heap.size + 1 + 1 + 1, 0, none⟩) S.gs.length S.gs.length) := by rw [hc2 _ _ (by simp; omega)]; simp [go_sem, hc1]
  have k1 : w2.cell? ⟨w.heap.size + 1 + 1, 1, none⟩ = some (.slice none 0 0) := by rw [hc2 _ _ (by simp; omega)]; simp [go_sem, hc1]
  have k2 : w2.cell? ⟨w.heap.size + 1, 0, none⟩ = some (.slice none 0 0) := by rw [hc2 _ _ (by simp; omega)]; simp [go_sem, hc1]
  have k3 : w2.cell? ⟨w.heap.size + 1, 1, none⟩ = some (.slice none 0 0) := by rw [hc2 _ _ (by simp; omega)]; simp [go_sem, hc1]
  have z1 : w2.frozen? ⟨w.heap.size + 1 + 1, 1, none⟩ = false := by rw [hf2 _ _ (by simp; omega)]; simp [go_sem, hf1]
  have z2 : w2.frozen? ⟨w.heap.size + 1, 0, none⟩ = false := by rw [hf2 _ _ (by simp; omega)]; simp [go_sem, hf1]
  have z3 : w2.frozen? ⟨w.heap.size + 1, 1, none⟩ = false := by rw [hf2 _ _ (by simp; omega)]; simp [go_sem, hf1]
  clear hc2 hf2 hl2 hc1 hf1 hl1
  simp only [headOf]
  go_wp2
  refine bodyPost_ret (v := .agg #[.slice (some ⟨w.heap.size + 1 + 1 + 1, 0, none⟩) S.gs.length S.gs.length, .slice (some ⟨w1.heap.size, 0, none⟩) S.ts.length S.ts.length]) ?_ rfl ⟨⟨_, _, rfl, w.heap.size + 1 + 1 + 1, w1.heap.size, by omega, by omega, ⟨rfl, ?_⟩, ⟨rfl, ?_⟩⟩, ?_⟩
  · simp [results, Tryd.results12, go_sem, k2, k3]
  · refine World.rowIs.of_block (w := w1) og2 ?_
    rw [Deep.blk_setCell_other _ _ _ _ (by (first | ((try dsimp only); omega) | (simp; done) | (simp; omega))), Deep.blk_setCell_other _ _ _ _ (by (first | ((try dsimp only); omega) | (simp; done) | (simp; omega))), Deep.blk_setCell_other _ _ _ _ (by (first | ((try dsimp only); omega) | (simp; done) | (simp; omega))), hb2.block _ (by (first | ((try dsimp only); omega) | (simp; done) | (simp; omega))), Deep.blk_setCell_other _ _ _ _ (by (first | ((try dsimp only); omega) | (simp; done) | (simp; omega)))]
  · obtain ⟨G, r1, r2⟩ := ot2
    refine ⟨G, World.rowIs.of_block (w := w2) r1 ?_, r2.keep fun b hb _ => ?_⟩ <;>
      rw [Deep.blk_setCell_other _ _ _ _ (by (first | ((try dsimp only); omega) | (simp; done) | (simp; omega))), Deep.blk_setCell_other _ _ _ _ (by (first | ((try dsimp only); omega) | (simp; done) | (simp; omega))), Deep.blk_setCell_other _ _ _ _ (by (first | ((try dsimp only); omega) | (simp; done) | (simp; omega)))]
  · (repeat (first | exact Below.refl _ _ | refine Below.setCell ?_ (by first | (simp; done) | (simp; omega) | omega) _ | refine belowN ?_ _ | refine Below.drew ?_ | refine Below.alloc ?_ (by first | (simp; done) | (simp; omega) | omega) _ | refine Below.trans ?_ (Below.mono (by assumption) (by first | (simp; done) | (simp; omega) | omega))))

end Go.Proofs.YtnofbeeihdgmdaaDoor
