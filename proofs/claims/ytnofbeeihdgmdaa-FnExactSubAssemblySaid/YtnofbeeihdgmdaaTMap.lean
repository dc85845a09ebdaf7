/-
  The program's map from the points of an assembly to its tiles. Conditions: each theorem's own.
-/
import Derived.Test.YtnofbeeihdgmdaaPlace
import Derived.Maps.OwnOps
import Derived.Maps.OwnSet
import Derived.Maps.Views
import Derived.DeepKeys5
import Derived.MapViews
namespace Go.Proofs.Ytnofbeeihdgmdaa
open Go.RowKit Go.Maps Go.WideMaps Go.Joins Go.ChangeShapes Go.WideShapes Go.Deep

theorem laidP : laidOutB Try.prog = true := by kernel_rfl
theorem lawP : Keyed Try.prog 57 := Keyed.of_law (deep_law_gate laidP (of_decide_eq_true (by kernel_rfl)) (of_decide_eq_true (by kernel_rfl)) (by kernel_rfl) (by kernel_rfl))
theorem zeroP1 (w : World) : (zeroValue 2).run Try.prog w = .ok (.int .i64 0) w := by kernel_rfl
/-- A point as a key. -/
def ptK (x y : Int) : Lit := (DataW.agg [.lit (.int .i64 x), .lit (.int .i64 y)] : DataW Unit).asKey
theorem keyOf_pt {x y : Int} (hx : (Lit.int .i64 x).wf = true) (hy : (Lit.int .i64 y).wf = true) : keyOf Try.prog 57 (.agg #[.int .i64 x, .int .i64 y]) = some (ptK x y) := by
  have hf : (Value.agg #[.int .i64 x, .int .i64 y]).formed Try.prog 57 = true := by
    have hC : Try.prog.cellsOf 57 = 2 := by kernel_rfl
    simp [Value.formed, Try.underlying57, hC]
  refine (keyOf_asKey (H := Unit) (enc := fun _ => ()) (w := default) (base := 0) (sp := fun _ => true) (held := true) (by kernel_rfl) (by kernel_rfl) hf (d := .agg [.lit (.int .i64 x), .lit (.int .i64 y)]) (ps := []) ?_).1
  exact shut_agg2 (y0 := (.lit (.int .i64 x), [])) (y1 := (.lit (.int .i64 y), [])) Try.underlying57 (by kernel_rfl) (by kernel_rfl) ⟨1, by simp [DataW.trod, Try.underlying2, hx]⟩ ⟨1, by simp [DataW.trod, Try.underlying2, hy]⟩

theorem wf_coord {a : Int} (h : inB a (-60) 60 = true) : (Lit.int .i64 a).wf = true := by
  have := inB_iff.1 h
  simp [Lit.wf, IntKind.min, IntKind.max, IntKind.signed, IntKind.bits]; omega
theorem ptB_parts {x y : Int} (h : ptB x y = true) : inB x (-60) 60 = true ∧ inB y (-60) 60 = true := by simpa [ptB] using h
theorem keyOf_ptB {x y : Int} (h : ptB x y = true) : keyOf Try.prog 57 (.agg #[.int .i64 x, .int .i64 y]) = some (ptK x y) := keyOf_pt (wf_coord (ptB_parts h).1) (wf_coord (ptB_parts h).2)
theorem ptK_inj {x y p q : Int} (h1 : ptB x y = true) (h2 : ptB p q = true) (h : ptK x y = ptK p q) : x = p ∧ y = q := by
  have a := keyOf_ptB h1
  have b := keyOf_ptB h2
  rw [h] at a
  have := lawP.inj a b
  simpa using this
theorem ptK_key {x y : Int} (h : ptB x y = true) : WideAt.IsKeyLit (ptK x y) := lawP.key (keyOf_ptB h)
/-- The map behind k placed tiles: each point leads to its tile. -/
def tMap (ps : List Pl) : Nat → DataW Unit
  | 0 => .map []
  | k + 1 => (tMap ps k).put (ptK (pX ps k) (pY ps k)) (.lit (.int .i64 (pT ps k)))
theorem tMap_tidy {ps : List Pl} (F : Form ps) {k : Nat} (hk : k ≤ ps.length) : Tidy (tMap ps k) := by
  induction k with
  | zero => exact tidy_empty
  | succ k ih => exact (ih (by omega)).put (ptK_key (F.all k (by omega)).pt) _
theorem tMap_has {ps : List Pl} (F : Form ps) {k : Nat} (hk : k ≤ ps.length) {x y : Int} (hp : ptB x y = true) : Maps.has (tMap ps k) (ptK x y) = true ↔ ∃ j, j < k ∧ pX ps j = x ∧ pY ps j = y := by
  induction k with
  | zero => simp [tMap, Maps.has]
  | succ k ih =>
    have hpk := (F.all k (by omega)).pt
    by_cases h : pX ps k = x ∧ pY ps k = y
    · obtain ⟨rfl, rfl⟩ := h
      exact ⟨fun _ => ⟨k, by omega, rfl, rfl⟩, fun _ => has_put_same (tMap_tidy F (by omega)).isMap (ptK_key hpk) _⟩
    · have e : Maps.has (tMap ps (k + 1)) (ptK x y) = Maps.has (tMap ps k) (ptK x y) := has_put_other (fun e => h (by have := ptK_inj hp hpk e; exact ⟨this.1.symm, this.2.symm⟩)) _
      rw [e, ih (by omega)]
      exact ⟨fun ⟨j, hj, hn⟩ => ⟨j, by omega, hn⟩, fun ⟨j, hj, hn⟩ => ⟨j, by
        rcases Nat.lt_or_eq_of_le (Nat.lt_succ_iff.1 hj) with h' | h'
        · exact h'
        · subst h'; exact absurd hn h, hn⟩⟩
theorem tMap_at {ps : List Pl} (F : Form ps) {k : Nat} (hk : k ≤ ps.length) {j : Nat} (hj : j < k) (z : DataW Unit) : (tMap ps k).atKey (ptK (pX ps j) (pY ps j)) z = .lit (.int .i64 (pT ps j)) := by
  induction k with
  | zero => omega
  | succ k ih =>
    have hpk := (F.all k (by omega)).pt
    by_cases h : j = k
    · subst h
      exact atKey_put_same (tMap_tidy F (by omega)).isMap (ptK_key hpk) _ z
    · have e : (tMap ps (k + 1)).atKey (ptK (pX ps j) (pY ps j)) z = (tMap ps k).atKey (ptK (pX ps j) (pY ps j)) z :=
        atKey_put_other (fun e => F.ne (i := j) (j := k) (by omega) (by omega) (ptK_inj (F.all j (by omega)).pt hpk e)) _ z
      rw [e]
      exact ih (by omega) (by omega)
/-- What a look-up finds. -/
theorem tMap_yes {ps : List Pl} (F : Form ps) {x y : Int} (hp : ptB x y = true) (h : ixN ps x y < ps.length) : Maps.has (tMap ps ps.length) (ptK x y) = true ∧ ∀ z, (tMap ps ps.length).atKey (ptK x y) z = .lit (.int .i64 (pT ps (ixN ps x y))) := by
  obtain ⟨e1, e2⟩ := ixN_at h
  refine ⟨(tMap_has F (Nat.le_refl _) hp).2 ⟨_, h, e1, e2⟩, fun z => ?_⟩
  have := tMap_at F (Nat.le_refl _) h z
  rw [e1, e2] at this
  exact this
theorem tMap_no {ps : List Pl} (F : Form ps) {x y : Int} (hp : ptB x y = true) (h : ¬ ixN ps x y < ps.length) : Maps.has (tMap ps ps.length) (ptK x y) = false := by
  cases e : Maps.has (tMap ps ps.length) (ptK x y)
  · rfl
  · obtain ⟨j, hj, hn⟩ := (tMap_has F (Nat.le_refl _) hp).1 e
    have := F.ix hj hn
    omega
/-- Block b is the map of these placed tiles. -/
def TMap (w : World) (b : Nat) (ps : List Pl) (k : Nat) : Prop := w.ownsMap Try.prog 57 (plainElem (H := Unit) Try.prog 2) b k (tMap ps k)
theorem TMap.below {w w1 : World} {b k : Nat} {ps : List Pl} (h : TMap w b ps k) (hb : Below w.heap.size w w1) : TMap w1 b ps k := by
  have hlt := World.ownsMap.lt h
  obtain ⟨es, clock, h1, h2⟩ := h
  exact ⟨es, clock, (hb.block _ hlt).trans h1, h2⟩
/-- A call that returns this map, in a block of its own. -/
def TMapPost (W : World) (ps : List Pl) (e : Ending) (w' : World) : Prop := ∃ b, e = .returned (.map (some b)) ∧ W.heap.size ≤ b ∧ TMap w' b ps ps.length
theorem lt_maxLen' {n : Nat} (h : n ≤ 1048576) : n < maxLen := by unfold maxLen; omega

set_option maxHeartbeats 800000 in
theorem tilesByPoint_any (v : Value) (ps : List Pl) (w : World) (hv : Plcs w v ps) (F : Form ps) :
    Calls Try.prog 83 #[.agg #[v]] w fun e w' => TMapPost w ps e w' ∧ Below w.heap.size w w' := by
  obtain ⟨ao, cap, rfl, hl, hm, hc⟩ := hv.open_
  unfold maxLen at hm
  have H0 := Lib.hid hc
  have HF := Lib.hid F
  have h500 := F.len
  have hmm := @run_makeMap Try.prog
  clear hc hv F
  go_enter Try.func83, Try.ntmps83
  go_wp2_with fail
  go_loopw [10] (fun i wr => ∃ k : Nat, k ≤ ps.length ∧ i = .int .i64 k ∧ TMap wr (w.heap.size + 1) ps k ∧ Below w.heap.size w wr) (fun i _ => ps.length - (intOf i).toNat)
  case atStart => exact ⟨0, by omega, rfl, by have := World.ownsMap_made (w.alloc (.cells #[.slice ao ps.length cap] 29)) Try.prog 57 (plainElem (H := Unit) Try.prog 2); simpa [TMap, tMap] using this, by (repeat (first | exact Below.refl _ _ | refine Below.setCell ?_ (by first | (simp; done) | (simp; omega) | omega) _ | refine belowN ?_ _ | refine Below.drew ?_ | refine Below.alloc ?_ (by first | (simp; done) | (simp; omega) | omega) _ | refine Below.trans ?_ (Below.mono (by assumption) (by first | (simp; done) | (simp; omega) | omega))))⟩
  case round =>
    obtain ⟨k, hk, rfl, hown, hbw⟩ := hrel
    have hlt0 := World.ownsMap.lt hown
    have sw := hbw.size
    by_cases hlt : k < ps.length
    · obtain ⟨b, off, rfl, H1⟩ := H0.out (by omega)
      obtain ⟨c0, c1, c2⟩ := H1 k hlt
      have c0 := cell_below hbw c0
      have c1 := cell_below hbw c1
      have c2 := cell_below hbw c2
      clear H1
      have hp := (HF.out.all k hlt).pt
      have ht := inB_iff.1 (HF.out.all k hlt).tl
      have HKEY := Lib.hid (keyOf_ptB hp)
      have HWF := Lib.hid (show (Lit.int .i64 (pT ps k)).wf = true by simp [Lit.wf, IntKind.min, IntKind.max, IntKind.signed, IntKind.bits]; omega)
      clear hp ht
      go_wp2_with (at_mapUpdate; refine wpList_mapUpdate_own _ rfl _ _ _ 124 rfl 57 2 lawP Try.underlying124 _ (w.heap.size + 1) k _ rfl (World.ownsMap.alloc hown _) (lt_maxLen' (by omega)) _ _ _ rfl rfl HKEY.out _ [] (plainElem_int Try.underlying2 HWF.out) ?_; intro w1 hown1 hgrow1)
      go_roundw
      case rel => exact ⟨k + 1, by omega, by go_num, hown1, by exact (((hbw.alloc (by omega) _)).grown hgrow1 (by simp; omega) (fun j hj => by cases hj; omega))⟩
      case measure => simp [intOf]; omega
    · obtain rfl : k = ps.length := by omega
      go_wp2_with fail
      go_ret
      exact ⟨⟨_, rfl, by omega, hown⟩, hbw⟩

end Go.Proofs.Ytnofbeeihdgmdaa
