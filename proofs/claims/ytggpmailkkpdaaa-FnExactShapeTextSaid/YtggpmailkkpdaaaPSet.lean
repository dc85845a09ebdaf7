/-
  The program's set of the points of a shape, as a map, and its look-ups. Conditions: each theorem's own.
-/
import Derived.Test.YtggpmailkkpdaaaHas
import Derived.Maps.OwnOps
import Derived.Maps.OwnSet
import Derived.Maps.Views
import Derived.DeepKeys5
import Derived.MapViews
namespace Go.Proofs.Ytggpmailkkpdaaa
open Go.RowKit Go.Maps Go.WideMaps Go.Joins Go.ChangeShapes Go.WideShapes Go.Deep

theorem laidQ : laidOutB Try.prog = true := by kernel_rfl
theorem lawQ : Keyed Try.prog 88 := Keyed.of_law (deep_law_gate laidQ (of_decide_eq_true (by kernel_rfl)) (of_decide_eq_true (by kernel_rfl)) (by kernel_rfl) (by kernel_rfl))
theorem zeroB1 (w : World) : (zeroValue 4).run Try.prog w = .ok (.bool false) w := by kernel_rfl
/-- A point as a key. -/
def ptK (x y : Int) : Lit := (DataW.agg [.lit (.int .i64 x), .lit (.int .i64 y)] : DataW Unit).asKey
theorem keyOf_pt {x y : Int} (hx : (Lit.int .i64 x).wf = true) (hy : (Lit.int .i64 y).wf = true) : keyOf Try.prog 88 (.agg #[.int .i64 x, .int .i64 y]) = some (ptK x y) := by
  have hf : (Value.agg #[.int .i64 x, .int .i64 y]).formed Try.prog 88 = true := by
    have hC : Try.prog.cellsOf 88 = 2 := by kernel_rfl
    simp [Value.formed, Try.underlying88, hC]
  refine (keyOf_asKey (H := Unit) (enc := fun _ => ()) (w := default) (base := 0) (sp := fun _ => true) (held := true) (by kernel_rfl) (by kernel_rfl) hf (d := .agg [.lit (.int .i64 x), .lit (.int .i64 y)]) (ps := []) ?_).1
  exact shut_agg2 (y0 := (.lit (.int .i64 x), [])) (y1 := (.lit (.int .i64 y), [])) Try.underlying88 (by kernel_rfl) (by kernel_rfl) ⟨1, by simp [DataW.trod, Try.underlying2, hx]⟩ ⟨1, by simp [DataW.trod, Try.underlying2, hy]⟩
theorem wf_near {a : Int} (h : -61 ≤ a ∧ a ≤ 61) : (Lit.int .i64 a).wf = true := by
  simp [Lit.wf, IntKind.min, IntKind.max, IntKind.signed, IntKind.bits]; omega
/-- A point of the field or beside it. -/
structure Near (x y : Int) : Prop where
  x : -61 ≤ x ∧ x ≤ 61
  y : -61 ≤ y ∧ y ≤ 61
theorem near_ptB {x y : Int} (h : ptB x y = true) : Near x y := by
  have h' : inB x (-60) 60 = true ∧ inB y (-60) 60 = true := by simpa [ptB] using h
  have a := inB_iff.1 h'.1
  have b := inB_iff.1 h'.2
  exact ⟨by omega, by omega⟩
theorem keyOf_near {x y : Int} (h : Near x y) : keyOf Try.prog 88 (.agg #[.int .i64 x, .int .i64 y]) = some (ptK x y) := keyOf_pt (wf_near h.x) (wf_near h.y)
theorem ptK_inj {x y p q : Int} (h1 : Near x y) (h2 : Near p q) (h : ptK x y = ptK p q) : x = p ∧ y = q := by
  have a := keyOf_near h1
  have b := keyOf_near h2
  rw [h] at a
  have := lawQ.inj a b
  simpa using this
theorem ptK_key {x y : Int} (h : Near x y) : WideAt.IsKeyLit (ptK x y) := lawQ.key (keyOf_near h)
theorem Shp.near {D : Cols} (h : Shp D) {i : Nat} (hi : i < D.n) : Near (D.c i 0) (D.c i 1) := near_ptB (h.all i hi).pt
/-- The set behind k points. -/
def qMap (D : Cols) : Nat → DataW Unit
  | 0 => .map []
  | k + 1 => (qMap D k).put (ptK (D.c k 0) (D.c k 1)) (.lit (.bool true))
theorem qMap_tidy {D : Cols} (F : Shp D) {k : Nat} (hk : k ≤ D.n) : Tidy (qMap D k) := by
  induction k with
  | zero => exact tidy_empty
  | succ k ih => exact (ih (by omega)).put (ptK_key (F.near (by omega))) _
theorem qMap_at {D : Cols} (F : Shp D) {k : Nat} (hk : k ≤ D.n) {x y : Int} (hp : Near x y) : (qMap D k).atKey (ptK x y) (.lit (.bool false)) = .lit (.bool ((List.range k).any fun i => D.c i 0 == x && D.c i 1 == y)) := by
  induction k with
  | zero => simp [qMap, DataW.atKey]
  | succ k ih =>
    by_cases h : D.c k 0 = x ∧ D.c k 1 = y
    · obtain ⟨rfl, rfl⟩ := h
      have e : (qMap D (k + 1)).atKey (ptK (D.c k 0) (D.c k 1)) (.lit (.bool false)) = .lit (.bool true) := atKey_put_same (qMap_tidy F (by omega)).isMap (ptK_key hp) _ _
      rw [e]
      simp [List.range_succ]
    · have e : (qMap D (k + 1)).atKey (ptK x y) (.lit (.bool false)) = (qMap D k).atKey (ptK x y) (.lit (.bool false)) :=
        atKey_put_other (fun e => h (by have := ptK_inj hp (F.near (i := k) (by omega)) e; exact ⟨this.1.symm, this.2.symm⟩)) _ _
      rw [e, ih (by omega)]
      have : (D.c k 0 == x && D.c k 1 == y) = false := by
        cases e2 : (D.c k 0 == x && D.c k 1 == y)
        · rfl
        · simp at e2; exact absurd e2 h
      simp [List.range_succ, this]
/-- What a look-up finds. -/
theorem qMap_has {D : Cols} (F : Shp D) {x y : Int} (hp : Near x y) : (qMap D D.n).atKey (ptK x y) (.lit (.bool false)) = .lit (.bool (hasQ D x y)) := qMap_at F (Nat.le_refl _) hp

theorem plainElem_bool_inv {H : Type} {P : Program} {e : TypeId} (he : P.underlying e = some .bool) {v : Value} {z : DataW H × List MemPlace} (h : plainElem P e v = some z) : ∃ c, v = .bool c ∧ z = (.lit (.bool c), []) := by
  unfold plainElem at h
  rw [he] at h
  cases v <;> simp at h
  subst h
  exact ⟨_, rfl, rfl⟩
/-- Block b is the set of the first k points. -/
def QMap (w : World) (b : Nat) (D : Cols) (k : Nat) : Prop := w.ownsMap Try.prog 88 (plainElem (H := Unit) Try.prog 4) b k (qMap D k)
theorem QMap.below {w w1 : World} {b k : Nat} {D : Cols} (h : QMap w b D k) (hb : Below w.heap.size w w1) : QMap w1 b D k := by
  have hlt := World.ownsMap.lt h
  obtain ⟨es, clock, h1, h2⟩ := h
  exact ⟨es, clock, (hb.block _ hlt).trans h1, h2⟩
theorem QMap.far {w w1 : World} {b k B : Nat} {D : Cols} (h : QMap w b D k) (hB : b < B) (hb : Below B w w1) : QMap w1 b D k := by
  obtain ⟨es, clock, h1, h2⟩ := h
  exact ⟨es, clock, (hb.block _ hB).trans h1, h2⟩
/-- A look-up of a point in or beside the field. -/
theorem wpList_lookup_q (w : World) {ops : Array Oper} {rest : List Oper} {o : Oper} {a : Act} {Q : Exit → Act → World → Prop} (hg : o.guard = none) (m x : Operand) (hop : o.op = Op.lookup 95 m x false)
    (b : Nat) (D : Cols) (F : Shp D) (hm : a.eval m = .map (some b)) (hown : QMap w b D D.n) (p q : Int) (hp : Near p q) (hx : a.eval x = .agg #[.int .i64 p, .int .i64 q])
    (hK : wpList Try.prog ops Q rest (a.put o.dst (.bool (hasQ D p q))) w) : wpList Try.prog ops Q (o :: rest) a w := by
  refine wpList_plain hg fun K' hK' => ?_
  obtain ⟨v, ps, hrun, hv⟩ := World.ownsMap.lookup hown lawQ Try.underlying95 (zeroB1 w) (plainElem_bool Try.underlying4 false) (keyOf_near hp)
  obtain ⟨c, rfl, hc⟩ := plainElem_bool_inv Try.underlying4 hv
  rw [qMap_has F hp] at hc
  simp only [Prod.mk.injEq, DataW.lit.injEq, Lit.bool.injEq] at hc
  obtain ⟨hc, -⟩ := hc
  subst hc
  unfold Oper.wp
  simp [execOp, hop, hm, hx, hrun, Result.andThen]
  exact hK' _ _ hK
/-- A call that returns this set, in a block of its own. -/
def QMapPost (W : World) (D : Cols) (e : Ending) (w' : World) : Prop := ∃ b, e = .returned (.map (some b)) ∧ W.heap.size ≤ b ∧ QMap w' b D D.n
theorem lt_maxLenQ {n : Nat} (h : n ≤ 1048576) : n < maxLen := by unfold maxLen; omega

set_option maxHeartbeats 800000 in
theorem pointSet_any (v : Value) (D : Cols) (w : World) (hv : Qs w v D) (F : Shp D) :
    Calls Try.prog 58 #[v] w fun e w' => QMapPost w D e w' ∧ Below w.heap.size w w' := by
  obtain ⟨ao, cap, rfl, hl, hm, hc⟩ := hv.open_
  unfold maxLen at hm
  have H0 := Lib.hid hc
  have HF := Lib.hid F
  have h500 := F.len
  have hmm := @run_makeMap Try.prog
  clear hc hv F
  go_enter Try.func58, Try.ntmps58
  go_wp2_with fail
  go_loopw [9] (fun i wr => ∃ k : Nat, k ≤ D.n ∧ i = .int .i64 k ∧ QMap wr w.heap.size D k ∧ Below w.heap.size w wr) (fun i _ => D.n - (intOf i).toNat)
  case atStart => exact ⟨0, by omega, rfl, by have := World.ownsMap_made w Try.prog 88 (plainElem (H := Unit) Try.prog 4); simpa [QMap, qMap] using this, by (repeat (first | exact Below.refl _ _ | refine Below.setCell ?_ (by first | (simp; done) | (simp; omega) | omega) _ | refine belowN ?_ _ | refine Below.drew ?_ | refine Below.alloc ?_ (by first | (simp; done) | (simp; omega) | omega) _ | refine Below.trans ?_ (Below.mono (by assumption) (by first | (simp; done) | (simp; omega) | omega))))⟩
  case round =>
    obtain ⟨k, hk, rfl, hown, hbw⟩ := hrel
    have hlt0 := World.ownsMap.lt hown
    have sw := hbw.size
    by_cases hlt : k < D.n
    · obtain ⟨b, off, rfl, H1⟩ := H0.out (by omega)
      obtain ⟨c0, c1⟩ := H1 k hlt
      have c0 := cell_below hbw c0
      have c1 := cell_below hbw c1
      clear H1
      have HKEY := Lib.hid (keyOf_near (HF.out.near hlt))
      go_wp2_with (at_mapUpdate; refine wpList_mapUpdate_own _ rfl _ _ _ 95 rfl 88 4 lawQ Try.underlying95 _ w.heap.size k _ rfl (World.ownsMap.alloc hown _) (lt_maxLenQ (by omega)) _ _ _ rfl rfl HKEY.out _ [] (plainElem_bool Try.underlying4 true) ?_; intro w1 hown1 hgrow1)
      go_roundw
      case rel => exact ⟨k + 1, by omega, by go_num, hown1, by exact (((hbw.alloc (by omega) _)).grown hgrow1 (by simp; omega) (fun j hj => by cases hj; omega))⟩
      case measure => simp [intOf]; omega
    · obtain rfl : k = D.n := by omega
      go_wp2_with fail
      go_ret
      exact ⟨⟨_, rfl, by omega, hown⟩, hbw⟩

end Go.Proofs.Ytggpmailkkpdaaa
