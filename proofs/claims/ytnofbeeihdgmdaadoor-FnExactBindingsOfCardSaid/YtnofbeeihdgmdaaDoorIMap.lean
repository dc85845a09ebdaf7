/-
  The program's map from the points of an assembly to its places. Conditions: each theorem's own.
-/
import Derived.Test.YtnofbeeihdgmdaaDoorTMap
import Derived.Test.YtnofbeeihdgmdaaDoorStep
namespace Go.Proofs.YtnofbeeihdgmdaaDoor
open Go.RowKit Go.Maps Go.WideMaps Go.Joins Go.ChangeShapes Go.WideShapes Go.Deep

/-- Numbers that are values. -/
def wfP (x y : Int) : Prop := (Lit.int .i64 x).wf = true ∧ (Lit.int .i64 y).wf = true
theorem wfP_pt {x y : Int} (h : ptB x y = true) : wfP x y := ⟨wf_coord (ptB_parts h).1, wf_coord (ptB_parts h).2⟩
theorem wfP_step {x y : Int} (hx : -60 ≤ x ∧ x ≤ 60) (hy : -60 ≤ y ∧ y ≤ 60) (d : Int) : wfP (stepX x d) (stepY y d) := by
  constructor
  · unfold stepX; (repeat' split) <;> (simp [Lit.wf, IntKind.min, IntKind.max, IntKind.signed, IntKind.bits]; omega)
  · unfold stepY; (repeat' split) <;> (simp [Lit.wf, IntKind.min, IntKind.max, IntKind.signed, IntKind.bits]; omega)
theorem keyOf_wf {x y : Int} (h : wfP x y) : keyOf Tryd.prog 44 (.agg #[.int .i64 x, .int .i64 y]) = some (ptK x y) := keyOf_pt h.1 h.2
theorem ptK_inj' {x y p q : Int} (h1 : wfP x y) (h2 : wfP p q) (h : ptK x y = ptK p q) : x = p ∧ y = q := by
  have a := keyOf_wf h1
  have b := keyOf_wf h2
  rw [h] at a
  have := lawP.inj a b
  simpa using this
/-- The map behind k placed tiles: each point leads to its place. -/
def iMap (ps : List Pl) : Nat → DataW Unit
  | 0 => .map []
  | k + 1 => (iMap ps k).put (ptK (pX ps k) (pY ps k)) (.lit (.int .i64 (k : Int)))
theorem iMap_tidy {ps : List Pl} (F : Form ps) {k : Nat} (hk : k ≤ ps.length) : Tidy (iMap ps k) := by
  induction k with
  | zero => exact tidy_empty
  | succ k ih => exact (ih (by omega)).put (ptK_key (F.all k (by omega)).pt) _
theorem iMap_has {ps : List Pl} (F : Form ps) {k : Nat} (hk : k ≤ ps.length) {x y : Int} (hp : wfP x y) : Maps.has (iMap ps k) (ptK x y) = true ↔ ∃ j, j < k ∧ pX ps j = x ∧ pY ps j = y := by
  induction k with
  | zero => simp [iMap, Maps.has]
  | succ k ih =>
    have hpk := (F.all k (by omega)).pt
    by_cases h : pX ps k = x ∧ pY ps k = y
    · obtain ⟨rfl, rfl⟩ := h
      exact ⟨fun _ => ⟨k, by omega, rfl, rfl⟩, fun _ => has_put_same (iMap_tidy F (by omega)).isMap (ptK_key hpk) _⟩
    · have e : Maps.has (iMap ps (k + 1)) (ptK x y) = Maps.has (iMap ps k) (ptK x y) := has_put_other (fun e => h (by have := ptK_inj' hp (wfP_pt hpk) e; exact ⟨this.1.symm, this.2.symm⟩)) _
      rw [e, ih (by omega)]
      exact ⟨fun ⟨j, hj, hn⟩ => ⟨j, by omega, hn⟩, fun ⟨j, hj, hn⟩ => ⟨j, by
        rcases Nat.lt_or_eq_of_le (Nat.lt_succ_iff.1 hj) with h' | h'
        · exact h'
        · subst h'; exact absurd hn h, hn⟩⟩
theorem iMap_at {ps : List Pl} (F : Form ps) {k : Nat} (hk : k ≤ ps.length) {j : Nat} (hj : j < k) (z : DataW Unit) : (iMap ps k).atKey (ptK (pX ps j) (pY ps j)) z = .lit (.int .i64 (j : Int)) := by
  induction k with
  | zero => omega
  | succ k ih =>
    have hpk := (F.all k (by omega)).pt
    by_cases h : j = k
    · subst h
      exact atKey_put_same (iMap_tidy F (by omega)).isMap (ptK_key hpk) _ z
    · have e : (iMap ps (k + 1)).atKey (ptK (pX ps j) (pY ps j)) z = (iMap ps k).atKey (ptK (pX ps j) (pY ps j)) z :=
        atKey_put_other (fun e => F.ne (i := j) (j := k) (by omega) (by omega) (ptK_inj (F.all j (by omega)).pt hpk e)) _ z
      rw [e]
      exact ih (by omega) (by omega)
/-- What a look-up finds. -/
theorem iMap_yes {ps : List Pl} (F : Form ps) {x y : Int} (hp : wfP x y) {k : Nat} (hk : k < ps.length) (h : ixN ps x y = k) : Maps.has (iMap ps ps.length) (ptK x y) = true ∧ ∀ z, (iMap ps ps.length).atKey (ptK x y) z = .lit (.int .i64 (k : Int)) := by
  obtain ⟨e1, e2⟩ := ixN_at (ps := ps) (x := x) (y := y) (by omega)
  rw [h] at e1 e2
  refine ⟨(iMap_has F (Nat.le_refl _) hp).2 ⟨_, hk, e1, e2⟩, fun z => ?_⟩
  have := iMap_at F (Nat.le_refl _) hk z
  rw [e1, e2] at this
  exact this
theorem iMap_no {ps : List Pl} (F : Form ps) {x y : Int} (hp : wfP x y) (h : ¬ ixN ps x y < ps.length) : Maps.has (iMap ps ps.length) (ptK x y) = false := by
  cases e : Maps.has (iMap ps ps.length) (ptK x y)
  · rfl
  · obtain ⟨j, hj, hn⟩ := (iMap_has F (Nat.le_refl _) hp).1 e
    have := F.ix hj hn
    omega
/-- Block b is the map of the places. -/
def IMap (w : World) (b : Nat) (ps : List Pl) (k : Nat) : Prop := w.ownsMap Tryd.prog 44 (plainElem (H := Unit) Tryd.prog 2) b k (iMap ps k)
theorem IMap.of_block {w w1 : World} {b k : Nat} {ps : List Pl} (h : IMap w b ps k) (hb : w1.heap[b]? = w.heap[b]?) : IMap w1 b ps k := by
  obtain ⟨es, clock, h1, h2⟩ := h
  exact ⟨es, clock, hb.trans h1, h2⟩
theorem IMap.lt {w : World} {b k : Nat} {ps : List Pl} (h : IMap w b ps k) : b < w.heap.size := World.ownsMap.lt h
theorem IMap.below {w w1 : World} {b k : Nat} {ps : List Pl} (h : IMap w b ps k) (hb : Below w.heap.size w w1) : IMap w1 b ps k := h.of_block (hb.block _ h.lt)
/-- A call that returns this map, in a block of its own. -/
def IMapPost (W : World) (ps : List Pl) (e : Ending) (w' : World) : Prop := ∃ b, e = .returned (.map (some b)) ∧ W.heap.size ≤ b ∧ IMap w' b ps ps.length

set_option maxHeartbeats 800000 in
theorem placesByPoint_any (v : Value) (ps : List Pl) (w : World) (hv : Plcs w v ps) (F : Form ps) :
    Calls Tryd.prog 114 #[.agg #[v]] w fun e w' => IMapPost w ps e w' ∧ Below w.heap.size w w' := by
  obtain ⟨ao, cap, rfl, hl, hm, hc⟩ := hv.open_
  unfold maxLen at hm
  have H0 := Lib.hid hc
  have HF := Lib.hid F
  have h500 := F.len
  have hmm := @run_makeMap Tryd.prog
  clear hc hv F
  go_enter Tryd.func114, Tryd.ntmps114
  go_wp2_with fail
  go_loopw [10] (fun i wr => ∃ k : Nat, k ≤ ps.length ∧ i = .int .i64 k ∧ IMap wr (w.heap.size + 1) ps k ∧ Below w.heap.size w wr) (fun i _ => ps.length - (intOf i).toNat)
  case atStart => exact ⟨0, by omega, rfl, by have := World.ownsMap_made (w.alloc (.cells #[.slice ao ps.length cap] 42)) Tryd.prog 44 (plainElem (H := Unit) Tryd.prog 2); simpa [IMap, iMap] using this, by (repeat (first | exact Below.refl _ _ | refine Below.setCell ?_ (by first | (simp; done) | (simp; omega) | omega) _ | refine belowN ?_ _ | refine Below.drew ?_ | refine Below.alloc ?_ (by first | (simp; done) | (simp; omega) | omega) _ | refine Below.trans ?_ (Below.mono (by assumption) (by first | (simp; done) | (simp; omega) | omega))))⟩
  case round =>
    obtain ⟨k, hk, rfl, hown, hbw⟩ := hrel
    have hlt0 := World.ownsMap.lt hown
    have sw := hbw.size
    by_cases hlt : k < ps.length
    · obtain ⟨b, off, rfl, H1⟩ := H0.out (by omega)
      obtain ⟨c0, c1, c2⟩ := H1 k hlt
      have c0 := cell_below hbw c0
      have c1 := cell_below hbw c1
      have c2 := cell_below hbw c2
      clear H1
      have hp := (HF.out.all k hlt).pt
      have HKEY := Lib.hid (keyOf_ptB hp)
      have HWF := Lib.hid (show (Lit.int .i64 (k : Int)).wf = true by simp [Lit.wf, IntKind.min, IntKind.max, IntKind.signed, IntKind.bits]; omega)
      clear hp
      go_wp2_with (at_mapUpdate; refine wpList_mapUpdate_own _ rfl _ _ _ 153 rfl 44 2 lawP Tryd.underlying153 _ (w.heap.size + 1) k _ rfl (World.ownsMap.alloc hown _) (lt_maxLen' (by omega)) _ _ _ rfl rfl HKEY.out _ [] (plainElem_int Tryd.underlying2 HWF.out) ?_; intro w1 hown1 hgrow1)
      go_roundw
      case rel => exact ⟨k + 1, by omega, by go_num, hown1, by exact (((hbw.alloc (by omega) _)).grown hgrow1 (by simp; omega) (fun j hj => by cases hj; omega))⟩
      case measure => simp [intOf]; omega
    · obtain rfl : k = ps.length := by omega
      go_wp2_with fail
      go_ret
      exact ⟨⟨_, rfl, by omega, hown⟩, hbw⟩
end Go.Proofs.YtnofbeeihdgmdaaDoor
