/-
  A slice of bytes as an argument of a law. Conditions: each theorem's own.
-/
import Derived.Test.YtlfobdnjjbhehaaDoorSrc
import Derived.Test.YtlfobdnjjbhehaaDoorRd
namespace Go.Proofs.YtlfobdnjjbhehaaDoor
open Go.RowKit Go.ChangeShapes Go.WideShapes Go.Deep

/-- v is a slice of n bytes. -/
def Bys (w : World) (v : Value) (n : Nat) : Prop := ∃ f : Nat → Nat → Value, Sl w 1 v n f ∧ ∀ i, i < n → ∃ x : Int, f i 0 = .int .u8 x ∧ 0 ≤ x ∧ x ≤ 255
theorem open_valueB {H : Type} {enc : TypeId × Value → H} {P : Program} {w : World} {base : Nat} {spare : Nat → Bool} {held : Bool} {r : Reach} {b0 : Nat} {t e : TypeId} {v : Value} {d : DataW H} {p : List MemPlace} (ht : P.underlying t = some (.slice e)) (hv : Value.okWide P w r b0 t v)
    (h : DataW.Trod enc P w base spare held t v d p) : ∃ n y, DataW.trod enc P w base spare held n t [v] = some y := by
  obtain ⟨n, h⟩ := h
  obtain ⟨a, k, q, rfl⟩ := okWide_slice ht hv
  exact ⟨n, _, h⟩
theorem wf_u8_in {z : Int} (h : (Lit.int .u8 z).wf = true) : 0 ≤ z ∧ z ≤ 255 := by
  simp only [Lit.wf, Bool.and_eq_true, decide_eq_true_eq] at h
  have h1 : IntKind.u8.min = 0 := by decide
  have h2 : IntKind.u8.max = 255 := by decide
  omega
theorem open_u8 {H : Type} {enc : TypeId × Value → H} {P : Program} {w : World} {base : Nat} {held : Bool} {t e : TypeId} {fuel : Nat} {v : Value} {x : DataW H × List MemPlace} (ht : P.underlying t = some (.slice e)) (he : P.underlying e = some (.int .u8)) (hC : P.cellsOf e = 1)
    (h : DataW.trod enc P w base (fun _ => true) held fuel t [v] = some x) : ∃ n : Nat, Bys w v n := by
  obtain ⟨n, f, hs, hr⟩ := open_sl ht hC (by omega) h
  refine ⟨n, f, hs, fun i hi => ?_⟩
  obtain ⟨k, y, hy⟩ := hr i hi
  obtain ⟨z, hz, -, hw⟩ := DataW.trod_int he hy
  exact ⟨z, by simpa using hz, wf_u8_in hw⟩
theorem Bys.code {w : World} {v : Value} {n : Nat} (h : Bys w v n) (hn : n ≤ 4096) : Code w v := by
  obtain ⟨f, ⟨ao, cap, rfl, h1, h2, h3⟩, h4⟩ := h
  refine ⟨ao, n, cap, rfl, hn, fun j hj => ?_⟩
  obtain ⟨b, off, rfl, h5⟩ := h3 (by omega)
  obtain ⟨x, e, hx⟩ := h4 j hj
  have := h5 j 0 hj (by omega)
  rw [e] at this
  exact ⟨b, off, x, rfl, by simpa using this, hx⟩
theorem Bys.shape {w : World} {v : Value} {n : Nat} (h : Bys w v n) : ∃ ao cap, v = .slice ao n cap ∧ n ≤ cap ∧ cap ≤ maxLen := by
  obtain ⟨f, ⟨ao, cap, rfl, h1, h2, h3⟩, h4⟩ := h
  exact ⟨ao, cap, rfl, h1, h2⟩
theorem f6big_any (v : Value) (n : Nat) (w : World) (h : Bys w v n) : Calls Tryd.prog 4 #[v] w fun e w' => e = .returned (.bool (decide (4096 < n))) ∧ w = w' := by
  obtain ⟨ao, cap, rfl, h1, h2⟩ := h.shape
  unfold maxLen at h2
  by_cases hn : 4096 < n
  all_goals
    go_enter Tryd.func4, Tryd.ntmps4
    go_wp2
    go_ret
    exact ⟨ret_bool (by simp; omega), rfl⟩
end Go.Proofs.YtlfobdnjjbhehaaDoor
