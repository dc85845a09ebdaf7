/-
  What a listed array of strings, or of points, holds cell for cell, out of a row's condition on its listed variables. Conditions: each lemma's own.
-/
import Derived.Test.YtlfobdnjjbhehaaDoorBase
import Derived.Lib.LaidTab
import Derived.LaidLaws
namespace Go.Proofs.YtlfobdnjjbhehaaDoor
open Go.RowKit

section
variable {P : Program} {W : World} {name : String} {rest : List (String × DataW Unit)} {g : Nat} {t e : TypeId} {n : Nat}

/-- An array of strings that stands first on the list: the cell at i holds just the listed bytes. -/
theorem strs_of_head {bss : List (List UInt8)} (hg : P.globalNamed name = some g) (hty : (P.globals[g]?).map (·.type) = some t) (ht : P.underlying t = some (.array n e)) (he : P.underlying e = some .string) (hce : P.cellsOf e = 1)
    (h : laidMet P ((name, .agg (bss.map fun bs => .lit (.string bs))) :: rest) W) {i : Nat} {bs : List UInt8} (hi : bss[i]? = some bs) : W.cell? ⟨g, i, none⟩ = some (.string ⟨bs.toArray⟩) := by
  obtain ⟨ps, ⟨g', t', cs, fuel, p, q, hg', ht', hvar, hd, _, _⟩, _⟩ := h
  obtain rfl := Option.some.inj (hg.symm.trans hg')
  obtain rfl := Option.some.inj (hty.symm.trans ht')
  obtain ⟨xs, m, rfl, hx, _, hl, hf⟩ := DataW.trod_array ht hd
  have hxs : (bss.map fun bs => (DataW.lit (.string bs) : DataW Unit)) = xs.map (·.1) := by
    have := congrArg Prod.fst hx
    simpa using this
  have hxi : (xs.map (·.1))[i]? = some (DataW.lit (.string bs) : DataW Unit) := by rw [← hxs]; simp [hi]
  obtain ⟨y, hy, hy1⟩ : ∃ y, xs[i]? = some y ∧ y.1 = (DataW.lit (.string bs) : DataW Unit) := by
    simpa using hxi
  have hin : i < n := by rw [← hl]; exact (List.getElem?_eq_some_iff.1 hy).1
  have hfi := hf i hin
  rw [hy] at hfi
  obtain ⟨s, hc, hs, _⟩ := DataW.trod_string he hfi
  have hsb : s.data.toList = bs := by
    rw [hs] at hy1
    simpa using hy1
  have h1 : cs[i]? = some (.string s) := by
    have := congrArg (·[0]?) hc
    simpa [hce, List.getElem?_take, List.getElem?_drop] using this
  have h2 := World.var?_cell hg hvar i
  rw [h2]
  have h3 : s = ⟨bs.toArray⟩ := by rw [← hsb]
  simpa [h3] using h1

/-- An array of pairs of numbers that stands first on the list. -/
theorem pairs_of_head {ks : List (Int × Int)} {f0 f1 : Field} {k : TypeId} (hg : P.globalNamed name = some g) (hty : (P.globals[g]?).map (·.type) = some t) (ht : P.underlying t = some (.array n e)) (he : P.underlying e = some (.struct #[f0, f1])) (hce : P.cellsOf e = 2)
    (ho0 : f0.offset = 0) (ho1 : f1.offset = 1) (ht0 : f0.type = k) (ht1 : f1.type = k) (hk : P.underlying k = some (.int .i64)) (hck : P.cellsOf k = 1)
    (h : laidMet P ((name, .agg (ks.map fun c => .agg [.lit (.int .i64 c.1), .lit (.int .i64 c.2)])) :: rest) W) {i : Nat} {a b : Int} (hi : ks[i]? = some (a, b)) :
    W.cell? ⟨g, i * 2, none⟩ = some (.int .i64 a) ∧ W.cell? ⟨g, i * 2 + 1, none⟩ = some (.int .i64 b) := by
  obtain ⟨ps, ⟨g', t', cs, fuel, p, q, hg', ht', hvar, hd, _, _⟩, _⟩ := h
  obtain rfl := Option.some.inj (hg.symm.trans hg')
  obtain rfl := Option.some.inj (hty.symm.trans ht')
  obtain ⟨xs, m, rfl, hx, _, hl, hf⟩ := DataW.trod_array ht hd
  have hxs : (ks.map fun c => (DataW.agg [.lit (.int .i64 c.1), .lit (.int .i64 c.2)] : DataW Unit)) = xs.map (·.1) := by
    have := congrArg Prod.fst hx
    simpa using this
  have hxi : (xs.map (·.1))[i]? = some (DataW.agg [.lit (.int .i64 a), .lit (.int .i64 b)] : DataW Unit) := by rw [← hxs]; simp [hi]
  obtain ⟨y, hy, hy1⟩ : ∃ y, xs[i]? = some y ∧ y.1 = (DataW.agg [.lit (.int .i64 a), .lit (.int .i64 b)] : DataW Unit) := by
    simpa using hxi
  have hin : i < n := by rw [← hl]; exact (List.getElem?_eq_some_iff.1 hy).1
  have hfi := hf i hin
  rw [hy] at hfi
  obtain ⟨zs, m', rfl, hz, _, hzl, hzf⟩ := DataW.trod_struct he hfi
  have hz1 : [DataW.lit (.int .i64 a), DataW.lit (.int .i64 b)] = zs.map (·.1) := by
    have := congrArg Prod.fst hz
    rw [hy1] at this
    simpa using this
  obtain ⟨z0, z1, rfl⟩ : ∃ z0 z1, zs = [z0, z1] := by
    match zs, hzl with
    | [z0, z1], _ => exact ⟨z0, z1, rfl⟩
  simp only [List.map_cons, List.map_nil, List.cons.injEq, and_true] at hz1
  have e0 := hzf 0 f0 (by simp)
  have e1 := hzf 1 f1 (by simp)
  rw [ho0, ht0, hck] at e0
  rw [ho1, ht1, hck] at e1
  obtain ⟨n0, c0, q0, _⟩ := DataW.trod_int hk (by simpa using e0)
  obtain ⟨n1, c1, q1, _⟩ := DataW.trod_int hk (by simpa using e1)
  have r0 : n0 = a := by have := hz1.1; rw [q0] at this; simpa using this.symm
  have r1 : n1 = b := by have := hz1.2; rw [q1] at this; simpa using this.symm
  subst r0 r1
  have h1 : cs[i * 2]? = some (.int .i64 n0) := by
    have := congrArg (·[0]?) c0
    simpa [hce, List.getElem?_take, List.getElem?_drop] using this
  have h2 : cs[i * 2 + 1]? = some (.int .i64 n1) := by
    have := congrArg (·[0]?) c1
    simpa [hce, List.getElem?_take, List.getElem?_drop] using this
  rw [World.var?_cell hg hvar, World.var?_cell hg hvar]
  exact ⟨by simpa using h1, by simpa using h2⟩
end
end Go.Proofs.YtlfobdnjjbhehaaDoor
