/-
  Lists of numbers as arguments and as results: the laws' own copies and marks. Conditions: each theorem's own.
-/
import Derived.Test.YtnofbeeihdgmdaaDoorMark
import Derived.Test.YtnofbeeihdgmdaaDoorKeep
namespace Go.Proofs.YtnofbeeihdgmdaaDoor
open Go.RowKit Go.ChangeShapes Go.WideShapes Go.Deep

/-- A list of numbers that has its own memory, from lo to hi. -/
def OwnZ (w : World) (lo hi : Nat) (v : Value) (zs : List Int) : Prop := (v = .slice none 0 0 ∧ zs.length = 0) ∨ ∃ g, lo ≤ g ∧ g < hi ∧ OwnAt w g v zs
theorem OwnZ.ints {w : World} {lo hi : Nat} {v : Value} {zs : List Int} (h : OwnZ w lo hi v zs) : Ints w v zs := by
  rcases h with h | ⟨g, -, -, h⟩
  · exact OwnAt.ints (g := 0) (.inl h)
  · exact h.ints
theorem OwnZ.keep {w w1 : World} {lo hi a b : Nat} {v : Value} {zs : List Int} (h : OwnZ w lo hi v zs) (hw : Within a b w w1) (ho : hi ≤ a ∨ b ≤ lo) : OwnZ w1 lo hi v zs := by
  rcases h with h | ⟨g, h1, h2, h⟩
  · exact .inl h
  · exact .inr ⟨g, h1, h2, h.keep hw (by omega)⟩
theorem OwnZ.below {w w1 : World} {lo hi : Nat} {v : Value} {zs : List Int} (h : OwnZ w lo hi v zs) (hb : Below w.heap.size w w1) : OwnZ w1 lo hi v zs := h.keep (Within.of (lo := 0) (hi := 0) hb) (.inr (Nat.zero_le _))
theorem OwnZ.mono {w : World} {lo hi lo' hi' : Nat} {v : Value} {zs : List Int} (h : OwnZ w lo hi v zs) (h1 : lo' ≤ lo) (h2 : hi ≤ hi') : OwnZ w lo' hi' v zs := by
  rcases h with h | ⟨g, e1, e2, h⟩
  · exact .inl h
  · exact .inr ⟨g, by omega, by omega, h⟩
theorem Ints.shape {w : World} {v : Value} {zs : List Int} (h : Ints w v zs) : ∃ a k q, v = .slice a k q := let ⟨a, q, h, _⟩ := h; ⟨a, _, q, h⟩
def MarkedZ (w : World) (v : Value) (n k : Nat) : Prop := Ints w v (mInts k n)
theorem MarkedZ.below {w w1 : World} {v : Value} {n k : Nat} (h : MarkedZ w v n k) (hb : Below w.heap.size w w1) : MarkedZ w1 v n k := Ints.below h hb
theorem markInt64S_k (lo hi : Nat) (v : Value) (zs : List Int) (k : Nat) (w : World) (h : OwnZ w lo hi v zs) (hz : zs.length ≤ 1048576) (h2 : k ≤ 1125899906842624) (_hw : hi ≤ w.heap.size) :
    Calls Tryd.prog 35 #[v, .int .i64 (k : Int)] w fun e w' => e = .returned (.int .i64 ((k + zs.length : Nat) : Int)) ∧ MarkedZ w' v zs.length k ∧ Within lo hi w w' := by
  rcases h with ⟨rfl, h0⟩ | ⟨g, h1, h3, h⟩
  · refine (markInt64S_any w.heap.size _ zs k w (.inl ⟨rfl, h0⟩) hz h2).mono ?_
    rintro e w1 ⟨rfl, hm, hw⟩
    refine ⟨rfl, hm.ints, hw.os, hw.tape, hw.output, hw.size, fun b hb _ => hw.block b hb (.inl hb)⟩
  · refine (markInt64S_any g v zs k w h hz h2).mono ?_
    rintro e w1 ⟨rfl, hm, hw⟩
    exact ⟨rfl, hm.ints, hw.mono h1 (by omega)⟩
theorem markInt64S_own (lo hi : Nat) (v : Value) (zs : List Int) (w : World) (h : OwnZ w lo hi v zs) (hz : zs.length ≤ 1048576) (hw : hi ≤ w.heap.size) :
    Calls Tryd.prog 35 #[v, .int .i64 1] w fun e w' => e = .returned (.int .i64 (iEnd zs.length : Int)) ∧ MarkedZ w' v zs.length 1 ∧ Within lo hi w w' := markInt64S_k lo hi v zs 1 w h hz (by omega) hw
theorem heldInt64S_own (v : Value) (zs : List Int) (w : World) (h : MarkedZ w v zs.length 1) (hz : zs.length ≤ 1048576) :
    Calls Tryd.prog 36 #[v, .int .i64 1] w fun e w' => e = .returned (.int .i64 (iEnd zs.length : Int)) ∧ Below w.heap.size w w' :=
  (heldInt64S_one v zs.length w h hz).mono fun _ _ ⟨he, hw⟩ => ⟨he, by subst hw; exact Below.refl _ _⟩
/-- A copy: its memory is its own, and it is not nil. -/
def NewZ (w : World) (lo : Nat) (v : Value) (zs : List Int) : Prop := OwnZ w lo w.heap.size v zs ∧ ∃ a k q, v = .slice (some a) k q
theorem toInt64S_new (v : Value) (zs : List Int) (w : World) (hv : Ints w v zs) (hz : zs.length ≤ 1048576) :
    Calls Tryd.prog 30 #[v] w fun e w' => (∃ v', e = .returned v' ∧ NewZ w' w.heap.size v' zs) ∧ Below w.heap.size w w' := by
  refine (toInt64S_any v zs w hv hz).mono ?_
  rintro e w1 ⟨⟨v', rfl, ho⟩, hb⟩
  exact ⟨⟨v', rfl, .inr ⟨w.heap.size, Nat.le_refl _, ho.2.lt, ho.at_ (maxLen_of hz)⟩, _, _, _, ho.1⟩, hb⟩
/-- A slice by value reads by its own cell. -/
theorem open_valueZ {H : Type} {enc : TypeId × Value → H} {P : Program} {w : World} {base : Nat} {spare : Nat → Bool} {held : Bool} {r : Reach} {b0 : Nat} {t e : TypeId} {v : Value} {d : DataW H} {p : List MemPlace} (ht : P.underlying t = some (.slice e)) (hv : Value.okWide P w r b0 t v)
    (h : DataW.Trod enc P w base spare held t v d p) : ∃ n y, DataW.trod enc P w base spare held n t [v] = some y := by
  obtain ⟨n, h⟩ := h
  obtain ⟨a, k, q, rfl⟩ := okWide_slice ht hv
  exact ⟨n, _, h⟩
/-- The cells of such a slice. -/
theorem Ints.open_ {w : World} {v : Value} {zs : List Int} (h : Ints w v zs) : ∃ ao cap, v = .slice ao zs.length cap ∧ zs.length ≤ cap ∧ cap ≤ maxLen ∧ (0 < zs.length → ∃ b off, ao = some ⟨b, off, none⟩ ∧
    ∀ i, i < zs.length → w.cell? ⟨b, off + i, none⟩ = some (.int .i64 (iAt zs i))) := by
  obtain ⟨ao, cap, h1, h2, h3, h4⟩ := h
  refine ⟨ao, cap, h1, h2, h3, fun h0 => ?_⟩
  obtain ⟨b, off, h5, h6⟩ := h4 h0
  exact ⟨b, off, h5, fun i hi => by simpa using h6 i 0 hi (by omega)⟩
end Go.Proofs.YtnofbeeihdgmdaaDoor
