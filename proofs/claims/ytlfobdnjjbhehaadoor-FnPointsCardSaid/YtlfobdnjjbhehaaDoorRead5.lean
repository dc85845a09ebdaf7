/-
  The library's two errors of strconv, out of a row's condition on its listed variables. Conditions: the list's order.
-/
import Derived.Test.YtlfobdnjjbhehaaDoorRead4
namespace Go.Proofs.YtlfobdnjjbhehaaDoor
open Go.RowKit

theorem starErr : "*" ++ "errors.errorString" = "*errors.errorString" := by decide
theorem rowErr (u : TypeId) (h : Tryd.prog.typeName? 3 u = some "*errors.errorString") : u = 93 :=
  typeName_ptr_named (nm := "errors.errorString") (by rw [starErr]; kernel_rfl) (by kernel_rfl) (by decide) u (by rw [starErr]; exact h)
theorem errs_of {W : World} {d1 d2 d3 : String × DataW Unit} {rest : List (String × DataW Unit)}
    (hL : laidMet Tryd.prog (d1 :: d2 :: d3 :: ("strconv.ErrRange", Rows.laid_strconv_ErrRange) :: ("strconv.ErrSyntax", Rows.laid_strconv_ErrSyntax) :: rest) W) : Errs W := by
  have h3 := Go.laidMet.tail (Go.laidMet.tail (Go.laidMet.tail hL))
  obtain ⟨a1, s1, hv1, -, -, -⟩ := laid_sentinel h3 gRng (by kernel_rfl) Tryd.underlying57 rowErr Tryd.underlying93 Tryd.underlying95 rfl rfl Tryd.underlying9 (by kernel_rfl) (by kernel_rfl)
  obtain ⟨a2, s2, hv2, -, -, -⟩ := laid_sentinel (Go.laidMet.tail h3) gSyn (by kernel_rfl) Tryd.underlying57 rowErr Tryd.underlying93 Tryd.underlying95 rfl rfl Tryd.underlying9 (by kernel_rfl) (by kernel_rfl)
  exact ⟨⟨_, _, hv2⟩, ⟨_, _, hv1⟩⟩
theorem Errs.lt1 {w : World} (h : Errs w) : 3 < w.heap.size := by
  obtain ⟨t, p, e⟩ := h.syn
  exact World.block_lt_of_cell? w ⟨3, 0, none⟩ (by rw [World.var?_cell gSyn e 0]; rfl)
theorem Errs.lt2 {w : World} (h : Errs w) : 4 < w.heap.size := by
  obtain ⟨t, p, e⟩ := h.rng
  exact World.block_lt_of_cell? w ⟨4, 0, none⟩ (by rw [World.var?_cell gRng e 0]; rfl)
end Go.Proofs.YtlfobdnjjbhehaaDoor
