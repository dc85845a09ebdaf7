/-
  How a slice of numbers, of glues, of tiles reads: a predicate on worlds that calls which make new memory alone keep, and how an argument opens into it. Conditions: each lemma's own.
-/
import Derived.Test.YtlfobdnjjbhehaaDoorTwo
import Derived.Deep.Slices
import Derived.Deep.Fields
namespace Go.Proofs.YtlfobdnjjbhehaaDoor
open Go.RowKit Go.ChangeShapes Go.WideShapes Go.Deep

/-- v is a slice of n elements of m cells each: cell j of element i holds f i j. -/
def Sl (w : World) (m : Nat) (v : Value) (n : Nat) (f : Nat → Nat → Value) : Prop :=
  ∃ (ao : Option Addr) (cap : Nat), v = .slice ao n cap ∧ n ≤ cap ∧ cap ≤ maxLen ∧
    (0 < n → ∃ b off, ao = some ⟨b, off, none⟩ ∧ ∀ i j, i < n → j < m → w.cell? ⟨b, off + i * m + j, none⟩ = some (f i j))

theorem cell_below {W w1 : World} (hb : Below W.heap.size W w1) {a : Addr} {v : Value} (h : W.cell? a = some v) : w1.cell? a = some v :=
  (hb.cell (World.block_lt_of_cell? W a h)).trans h

theorem Sl.below {w w1 : World} {m n : Nat} {v : Value} {f : Nat → Nat → Value} (h : Sl w m v n f) (hb : Below w.heap.size w w1) : Sl w1 m v n f := by
  obtain ⟨ao, cap, hv, h1, h2, h3⟩ := h
  refine ⟨ao, cap, hv, h1, h2, fun hn => ?_⟩
  obtain ⟨b, off, hao, hc⟩ := h3 hn
  exact ⟨b, off, hao, fun i j hi hj => cell_below hb (hc i j hi hj)⟩

theorem addr_plain {w : World} {a : Addr} {v : Value} (h : w.cell? a = some v) : a = ⟨a.block, a.off, none⟩ := by
  obtain ⟨b, o, s⟩ := a
  unfold World.cell? at h
  cases s with
  | none => rfl
  | some x => simp at h; split at h <;> simp_all

theorem Sl.congr {w : World} {m n : Nat} {v : Value} {f g : Nat → Nat → Value} (h : Sl w m v n f) (hfg : ∀ i j, i < n → j < m → f i j = g i j) : Sl w m v n g := by
  obtain ⟨ao, cap, hv, h1, h2, h3⟩ := h
  refine ⟨ao, cap, hv, h1, h2, fun hn => ?_⟩
  obtain ⟨b, off, hao, hc⟩ := h3 hn
  exact ⟨b, off, hao, fun i j hi hj => by rw [hc i j hi hj, hfg i j hi hj]⟩

/-- Element i of a list of numbers. -/
def iAt (zs : List Int) (i : Nat) : Int := zs.getD i 0
/-- v is a slice of these numbers. -/
def Ints (w : World) (v : Value) (zs : List Int) : Prop := Sl w 1 v zs.length fun i _ => .int .i64 (iAt zs i)
theorem Ints.below {w w1 : World} {v : Value} {zs : List Int} (h : Ints w v zs) (hb : Below w.heap.size w w1) : Ints w1 v zs := Sl.below h hb

/-- A glue: its name and its strength. -/
structure Gl where
  name : ByteArray
  str : Int
instance : Inhabited Gl := ⟨⟨⟨#[]⟩, 0⟩⟩
def gN (gs : List Gl) (i : Nat) : ByteArray := (gs.getD i default).name
def gS (gs : List Gl) (i : Nat) : Int := (gs.getD i default).str
/-- v is a slice of these glues. -/
def Glues (w : World) (v : Value) (gs : List Gl) : Prop := Sl w 2 v gs.length fun i j => if j = 0 then .string (gN gs i) else .int .i64 (gS gs i)
def Gl.ok (g : Gl) : Prop := g.name.size ≤ maxLen ∧ (Lit.int .i64 g.str).wf = true
theorem Glues.below {w w1 : World} {v : Value} {gs : List Gl} (h : Glues w v gs) (hb : Below w.heap.size w w1) : Glues w1 v gs := Sl.below h hb

/-- A tile: its name and its sides. -/
structure Tl where
  name : ByteArray
  sides : List Int
instance : Inhabited Tl := ⟨⟨⟨#[]⟩, []⟩⟩
def tN (ts : List Tl) (i : Nat) : ByteArray := (ts.getD i default).name
def tS (ts : List Tl) (i : Nat) : List Int := (ts.getD i default).sides
/-- v is a slice of these tiles; sv i: the slice of the sides of tile i. -/
def TilesAt (w : World) (v : Value) (ts : List Tl) (sv : Nat → Value) : Prop :=
  Sl w 2 v ts.length (fun i j => if j = 0 then .string (tN ts i) else sv i) ∧ ∀ i, i < ts.length → Ints w (sv i) (tS ts i)
def Tiles (w : World) (v : Value) (ts : List Tl) : Prop := ∃ sv, TilesAt w v ts sv
def Tl.ok (t : Tl) : Prop := t.name.size ≤ maxLen ∧ ∀ z ∈ t.sides, (Lit.int .i64 z).wf = true
theorem Tiles.below {w w1 : World} {v : Value} {ts : List Tl} (h : Tiles w v ts) (hb : Below w.heap.size w w1) : Tiles w1 v ts :=
  let ⟨sv, h1, h2⟩ := h
  ⟨sv, h1.below hb, fun i hi => (h2 i hi).below hb⟩

section
variable {H : Type} {enc : TypeId × Value → H} {P : Program} {w : World} {base : Nat} {held : Bool}

/-- A slice that is read with what lies behind its length: its cells, and what each element reads as. -/
theorem open_sl {t e : TypeId} {m fuel : Nat} {v : Value} {x : DataW H × List MemPlace} (ht : P.underlying t = some (.slice e)) (hC : P.cellsOf e = m) (hm0 : 0 < m)
    (h : DataW.trod enc P w base (fun _ => true) held fuel t [v] = some x) :
    ∃ n f, Sl w m v n f ∧ ∀ i, i < n → ∃ k y, DataW.trod enc P w base (fun _ => true) held k e ((List.range m).map (f i)) = some y := by
  rcases open_slice ht h with ⟨h0, -⟩ | ⟨a, len, cap, q, n, D, Pl, hcs, hb, hl, hm, hq, hx, hi⟩
  · obtain rfl : v = .slice none 0 0 := by simpa using h0
    exact ⟨0, fun _ _ => undef, ⟨none, 0, rfl, Nat.le_refl _, Nat.zero_le _, fun h => absurd h (Nat.lt_irrefl 0)⟩, fun i hi => absurd hi (Nat.not_lt_zero i)⟩
  · obtain rfl : v = .slice (some a) len cap := by simpa using hcs
    have hq' : q = cap := by simpa using hq
    subst hq' hC
    have g : ∀ i, i < q → ∃ cs : List Value, w.cells? base (a.add (i * P.cellsOf e)) (P.cellsOf e) = some cs ∧ DataW.trod enc P w base (fun _ => true) held n e cs = some (D i, Pl i) := hi
    obtain ⟨F, hF⟩ := choose_lt (α := List Value) g
    refine ⟨len, fun i j => (F i).getD j undef, ⟨some a, q, rfl, hl, hm, fun hn => ?_⟩, fun i hil => ?_⟩
    · have ha : a = ⟨a.block, a.off, none⟩ := by
        obtain ⟨h1, h2⟩ := hF 0 (by omega)
        obtain ⟨_, hlen, hc⟩ := World.cells?_some h1
        have := hc 0 (by omega)
        rw [Nat.zero_mul] at this
        have e0 : (a.add 0).add 0 = a := by simp [Addr.add]
        rw [e0, List.getElem?_eq_getElem (by omega)] at this
        exact addr_plain this
      refine ⟨a.block, a.off, by rw [← ha], fun i j hi hj => ?_⟩
      obtain ⟨h1, h2⟩ := hF i (by omega)
      obtain ⟨_, hlen, hc⟩ := World.cells?_some h1
      have := hc j hj
      rw [ha, add_plain, add_plain] at this
      rw [this]
      simp [List.getD, show j < (F i).length by omega]
    · obtain ⟨h1, h2⟩ := hF i (by omega)
      obtain ⟨_, hlen, hc⟩ := World.cells?_some h1
      refine ⟨n, (D i, Pl i), ?_⟩
      rw [← h2]
      congr 1
      apply List.ext_getElem?
      intro j
      by_cases hj : j < P.cellsOf e
      · simp [hj, List.getD, show j < (F i).length by omega]
      · simp [hj, show ¬ j < (F i).length by omega]

theorem open_i64 {t e : TypeId} {fuel : Nat} {v : Value} {x : DataW H × List MemPlace} (ht : P.underlying t = some (.slice e)) (he : P.underlying e = some (.int .i64)) (hC : P.cellsOf e = 1)
    (h : DataW.trod enc P w base (fun _ => true) held fuel t [v] = some x) : ∃ zs : List Int, Ints w v zs ∧ ∀ z ∈ zs, (Lit.int .i64 z).wf = true := by
  obtain ⟨n, f, hs, hr⟩ := open_sl ht hC (by omega) h
  have g : ∀ i, i < n → ∃ z : Int, f i 0 = .int .i64 z ∧ (Lit.int .i64 z).wf = true := fun i hi => by
    obtain ⟨k, y, hy⟩ := hr i hi
    obtain ⟨z, hz, -, hw⟩ := DataW.trod_int he hy
    exact ⟨z, by simpa using hz, hw⟩
  obtain ⟨Z, hZ⟩ := choose_lt g
  refine ⟨(List.range n).map Z, ?_, ?_⟩
  · show Sl w 1 v ((List.range n).map Z).length _
    rw [show ((List.range n).map Z).length = n by simp]
    refine hs.congr fun i j hi hj => ?_
    obtain rfl : j = 0 := by omega
    simp [iAt, hi, hZ i hi]
  · intro z hz
    obtain ⟨i, hi, rfl⟩ := by simpa using hz
    exact (hZ i hi).2

theorem open_glues {t e ks ki : TypeId} {f0 f1 : Field} {fuel : Nat} {v : Value} {x : DataW H × List MemPlace} (ht : P.underlying t = some (.slice e)) (he : P.underlying e = some (.struct #[f0, f1])) (hone : oneCellFields P #[f0, f1] = true) (hC : P.cellsOf e = 2)
    (h0 : f0.type = ks) (h1 : f1.type = ki) (hs : P.underlying ks = some .string) (hi : P.underlying ki = some (.int .i64))
    (h : DataW.trod enc P w base (fun _ => true) held fuel t [v] = some x) : ∃ gs : List Gl, Glues w v gs ∧ ∀ g ∈ gs, g.ok := by
  obtain ⟨n, f, hsl, hr⟩ := open_sl ht hC (by omega) h
  obtain ⟨o0, k0⟩ := hone_of hone 0 f0 rfl
  obtain ⟨o1, k1⟩ := hone_of hone 1 f1 rfl
  have g : ∀ i, i < n → ∃ q : Gl, (f i 0 = .string q.name ∧ f i 1 = .int .i64 q.str) ∧ q.ok := fun i hi' => by
    obtain ⟨k, y, hy⟩ := hr i hi'
    obtain ⟨y0, y1, m, _, _, g0, g1⟩ := trod_struct2 he hy
    rw [o0, k0, h0] at g0
    rw [o1, k1, h1] at g1
    obtain ⟨s, e0, -, w0⟩ := DataW.trod_string hs g0
    obtain ⟨z, e1, -, w1⟩ := DataW.trod_int hi g1
    exact ⟨⟨s, z⟩, ⟨by simpa [List.range_succ] using e0, by simpa [List.range_succ] using e1⟩, w0, w1⟩
  obtain ⟨Z, hZ⟩ := choose_lt g
  refine ⟨(List.range n).map Z, ?_, ?_⟩
  · show Sl w 2 v ((List.range n).map Z).length _
    rw [show ((List.range n).map Z).length = n by simp]
    refine hsl.congr fun i j hi hj => ?_
    obtain ⟨⟨a0, a1⟩, -⟩ := hZ i hi
    by_cases hj0 : j = 0
    · subst hj0; simp [gN, hi, a0]
    · obtain rfl : j = 1 := by omega
      simp [gS, hi, a1]
  · intro z hz
    obtain ⟨i, hi, rfl⟩ := by simpa using hz
    exact (hZ i hi).2

theorem open_tiles {t e ks kt ki : TypeId} {f0 f1 : Field} {fuel : Nat} {v : Value} {x : DataW H × List MemPlace} (ht : P.underlying t = some (.slice e)) (he : P.underlying e = some (.struct #[f0, f1])) (hone : oneCellFields P #[f0, f1] = true) (hC : P.cellsOf e = 2)
    (h0 : f0.type = ks) (h1 : f1.type = kt) (hs : P.underlying ks = some .string) (hk : P.underlying kt = some (.slice ki)) (hi : P.underlying ki = some (.int .i64)) (hCi : P.cellsOf ki = 1)
    (h : DataW.trod enc P w base (fun _ => true) held fuel t [v] = some x) : ∃ ts : List Tl, Tiles w v ts ∧ ∀ g ∈ ts, g.ok := by
  obtain ⟨n, f, hsl, hr⟩ := open_sl ht hC (by omega) h
  obtain ⟨o0, k0⟩ := hone_of hone 0 f0 rfl
  obtain ⟨o1, k1⟩ := hone_of hone 1 f1 rfl
  have g : ∀ i, i < n → ∃ q : Tl, (f i 0 = .string q.name ∧ Ints w (f i 1) q.sides) ∧ q.ok := fun i hi' => by
    obtain ⟨k, y, hy⟩ := hr i hi'
    obtain ⟨y0, y1, m, _, _, g0, g1⟩ := trod_struct2 he hy
    rw [o0, k0, h0] at g0
    rw [o1, k1, h1] at g1
    obtain ⟨s, e0, -, w0⟩ := DataW.trod_string hs g0
    obtain ⟨zs, e1, w1⟩ := open_i64 (v := f i 1) hk hi hCi (by simpa [List.range_succ] using g1)
    exact ⟨⟨s, zs⟩, ⟨by simpa [List.range_succ] using e0, e1⟩, w0, w1⟩
  obtain ⟨Z, hZ⟩ := choose_lt g
  refine ⟨(List.range n).map Z, ⟨fun i => f i 1, ?_, ?_⟩, ?_⟩
  · rw [show ((List.range n).map Z).length = n by simp]
    refine hsl.congr fun i j hi hj => ?_
    obtain ⟨⟨a0, a1⟩, -⟩ := hZ i hi
    by_cases hj0 : j = 0
    · subst hj0; simp [tN, hi, a0]
    · obtain rfl : j = 1 := by omega
      simp
  · intro i hi
    have hi' : i < n := by simpa using hi
    have := (hZ i hi').1.2
    simpa [tS, hi'] using this
  · intro z hz
    obtain ⟨i, hi, rfl⟩ := by simpa using hz
    exact (hZ i hi).2
end
end Go.Proofs.YtlfobdnjjbhehaaDoor
