/-
  The program's copy of a list of placed tiles. Conditions: each theorem's own.
-/
import Derived.Test.YtnofbeeihdgmdaaTMap
import Derived.Test.YtnofbeeihdgmdaaPts
import Derived.Laws.IdiomCopy
namespace Go.Proofs.Ytnofbeeihdgmdaa
open Go.RowKit

/-- 'copy' of elements of m cells: the cells of as many elements as go over. -/
theorem run_copy_rows {P : Program} (w : World) (dT sT ty elem : TypeId) (m b o dLen dCap : Nat) (a : Addr) (sLen sCap : Nat) (cs : List Value)
    (hu : P.underlying dT = some (.slice elem)) (hs : (P.info? elem).map (·.size) = some m) (hn : cs.length = Nat.min sLen dLen * m)
    (hsrc : ∀ j v, cs[j]? = some v → w.cell? (a.add j) = some v) (hc : ∀ j, j < cs.length → (w.cell? ⟨b, o + j, none⟩).isSome = true) (hf : ∀ j, j < cs.length → w.frozen? ⟨b, o + j, none⟩ = false) (h1 : ∀ v ∈ cs, v.oneCell' = true) :
    (Builtin.copy_ #[dT, sT] ty #[.slice (some ⟨b, o, none⟩) dLen dCap, .slice (some a) sLen sCap]).run P w = .ok (goInt (Nat.min sLen dLen)) (w.setCells b o cs) := by
  have hl := run_loadCells_list (P := P) w a cs hsrc
  have hst := run_storeCells_cells (P := P) b o cs 0 w (by simpa using hc) (by simpa using hf) h1
  cases hq : P.info? elem with
  | none => simp [hq] at hs
  | some i =>
    have hi : i.size = m := by simpa [hq] using hs
    simp [Builtin.copy_, run_underlying hu, Builtin.lenOf, Builtin.firstCells, sizeOf, typeInfo, hq, hi, ← hn, hl, hst]
theorem run_copy_empty {P : Program} (w : World) (dT sT ty elem : TypeId) (m : Nat) (d a : Option Addr) (dLen dCap sLen sCap : Nat) (hu : P.underlying dT = some (.slice elem)) (hs : (P.info? elem).map (·.size) = some m) (hn : Nat.min sLen dLen = 0) :
    (Builtin.copy_ #[dT, sT] ty #[.slice d dLen dCap, .slice a sLen sCap]).run P w = .ok (goInt 0) w := by
  cases hq : P.info? elem with
  | none => simp [hq] at hs
  | some i =>
    have hl : ∀ (x : Addr), (loadCells x 0).run P w = .ok #[] w := fun x => by simpa using run_loadCells_list (P := P) w x [] (by simp)
    cases d <;> cases a <;> simp [Builtin.copy_, run_underlying hu, Builtin.lenOf, Builtin.firstCells, sizeOf, typeInfo, hq, hn, storeCells, hl]

theorem rowIs_setCells {b : Nat} {t : TypeId} {N : Nat} : ∀ (vs : List Value) (o : Nat) (w : World) (f : Nat → Value), w.rowIs b t N f → (w.setCells b o vs).rowIs b t N (fun i => if o ≤ i then (vs[i - o]?).getD (f i) else f i)
  | [], o, w, f, h => by simpa [World.setCells] using h
  | v :: r, o, w, f, h => by
    rw [World.setCells]
    refine (rowIs_setCells r (o + 1) _ _ (h.set o v)).congr fun i _ => ?_
    by_cases h1 : i = o
    · subst h1; simp; intro h; omega
    · by_cases h2 : o ≤ i
      · have h3 : o + 1 ≤ i := by omega
        simp only [h2, h3, if_true, if_neg h1]
        rw [show i - o = (i - (o + 1)) + 1 by omega, List.getElem?_cons_succ]
      · have h3 : ¬ o + 1 ≤ i := by omega
        simp only [h2, h3, if_false, if_neg h1]
theorem below_setCells {lo b : Nat} {w0 : World} (hb : lo ≤ b) : ∀ (vs : List Value) (o : Nat) (w : World), Below lo w0 w → Below lo w0 (w.setCells b o vs)
  | [], _, _, h => h
  | v :: r, o, w, h => by
    rw [World.setCells]
    exact below_setCells hb r (o + 1) _ (h.setCell hb v)

theorem add_none (b o j : Nat) : (⟨b, o, none⟩ : Addr).add j = ⟨b, o + j, none⟩ := by unfold Addr.add; split <;> simp_all
theorem size_placed : (Try.prog.info? 67).map (·.size) = some 3 := by
  obtain ⟨i0, hi, hz0, hz1, hz2⟩ := info_parts info_placed
  rw [hi]; simp [hz1]
/-- The world in which placed tiles have been copied to the youngest block. -/
def copiedP (w : World) (ps : List Pl) : World := (w.alloc (.cells (zeroP ps.length) 67)).setCells w.heap.size 0 (cRow 3 (pC ps) ps.length)
theorem copiedP_row (w : World) (ps : List Pl) : (copiedP w ps).rowIs w.heap.size 67 (ps.length * 3) (pCell ps) := by
  refine (rowIs_setCells (cRow 3 (pC ps) ps.length) 0 _ _ (rowIs_made3 w (.int .i64 0) ps.length 67)).congr fun i hi => ?_
  have h3 : i % 3 < 3 := Nat.mod_lt _ (by omega)
  have h := cRow_at 3 (pC ps) (n := ps.length) (i := i / 3) (j := i % 3) (by omega) h3
  rw [show i / 3 * 3 + i % 3 = i by omega] at h
  simp [h, pCell]
theorem copiedP_below (w : World) (ps : List Pl) : Below w.heap.size w (copiedP w ps) := below_setCells (Nat.le_refl _) _ _ _ (by (repeat (first | exact Below.refl _ _ | refine Below.setCell ?_ (by first | (simp; done) | (simp; omega) | omega) _ | refine belowN ?_ _ | refine Below.drew ?_ | refine Below.alloc ?_ (by first | (simp; done) | (simp; omega) | omega) _ | refine Below.trans ?_ (Below.mono (by assumption) (by first | (simp; done) | (simp; omega) | omega)))))
theorem copy_placed {w : World} {ao : Option Addr} {cap : Nat} {ps : List Pl} (hv : Plcs w (.slice ao ps.length cap) ps) :
    (Builtin.copy_ #[27, 27] 3 #[.slice (some ⟨w.heap.size, 0, none⟩) ps.length ps.length, .slice ao ps.length cap]).run Try.prog (w.alloc (.cells (zeroP ps.length) 67)) = .ok (goInt ps.length) (copiedP w ps) := by
  have hrow : (w.alloc (.cells (zeroP ps.length) 67)).rowIs w.heap.size 67 (ps.length * 3) (fun _ => .int .i64 0) := rowIs_made3 w (.int .i64 0) ps.length 67
  by_cases h0 : ps.length = 0
  · have e : copiedP w ps = w.alloc (.cells (zeroP ps.length) 67) := by unfold copiedP; rw [h0]; rfl
    rw [e]
    have := run_copy_empty (P := Try.prog) (w.alloc (.cells (zeroP ps.length) 67)) 27 27 3 67 3 (some ⟨w.heap.size, 0, none⟩) ao ps.length ps.length ps.length cap Try.underlying27 size_placed (by rw [h0]; rfl)
    rw [this, h0]; rfl
  · obtain ⟨ao', cap', e, -, -, hc⟩ := hv.open_
    obtain ⟨b, off, rfl, H⟩ := hc (by omega)
    obtain ⟨rfl, -⟩ : ao = some ⟨b, off, none⟩ ∧ cap = cap' := by simpa using e
    have hmin : Nat.min ps.length ps.length = ps.length := Nat.min_self _
    have := run_copy_rows (P := Try.prog) (w.alloc (.cells (zeroP ps.length) 67)) 27 27 3 67 3 w.heap.size 0 ps.length ps.length ⟨b, off, none⟩ ps.length cap (cRow 3 (pC ps) ps.length) Try.underlying27 size_placed (by rw [hmin, cRow_len]) ?_ ?_ ?_ ?_
    · rw [hmin] at this; exact this
    · intro q u hq
      have hlt : q < ps.length * 3 := by
        have := (List.getElem?_eq_some_iff.1 hq).1
        rwa [cRow_len] at this
      have h3 : q % 3 < 3 := Nat.mod_lt _ (by omega)
      have h := cRow_at 3 (pC ps) (n := ps.length) (i := q / 3) (j := q % 3) (by omega) h3
      rw [show q / 3 * 3 + q % 3 = q by omega, hq] at h
      obtain ⟨c0, c1, c2⟩ := H (q / 3) (by omega)
      rw [add_none]
      refine akeep ?_
      obtain rfl : u = .int .i64 (pC ps (q / 3) (q % 3)) := by simpa using h
      obtain hm | hm | hm : q % 3 = 0 ∨ q % 3 = 1 ∨ q % 3 = 2 := by omega
      · rw [hm, show off + q = off + q / 3 * 3 by omega, c0]; rfl
      · rw [hm, show off + q = off + q / 3 * 3 + 1 by omega, c1]; rfl
      · rw [hm, show off + q = off + q / 3 * 3 + 2 by omega, c2]; rfl
    · intro j hj
      rw [cRow_len] at hj
      rw [Nat.zero_add, hrow.cell hj]; rfl
    · intro j _
      rw [Nat.zero_add]; exact hrow.frozen j
    · intro u hu
      obtain ⟨q, hq, rfl⟩ := List.mem_iff_getElem.1 hu
      rw [cRow_len] at hq
      have h3 : q % 3 < 3 := Nat.mod_lt _ (by omega)
      have h := cRow_at 3 (pC ps) (n := ps.length) (i := q / 3) (j := q % 3) (by omega) h3
      rw [show q / 3 * 3 + q % 3 = q by omega] at h
      have h' := (List.getElem?_eq_some_iff.1 h).2
      rw [h']; rfl

set_option maxHeartbeats 800000 in
theorem copyPlaced_any (v : Value) (ps : List Pl) (w : World) (hv : Plcs w v ps) (hz : ps.length ≤ 1048576) :
    Calls Try.prog 76 #[v] w fun e w' => (e = .returned (.slice (some ⟨w.heap.size, 0, none⟩) ps.length ps.length) ∧ w'.rowIs w.heap.size 67 (ps.length * 3) (pCell ps)) ∧ Below w.heap.size w w' := by
  obtain ⟨ao, cap, rfl, hl, hm, -⟩ := hv.open_
  unfold maxLen at hm
  have hmk := mk_placed ps.length hz
  have hcp := copy_placed hv
  have HR := Lib.hid (copiedP_row w ps)
  have HB := Lib.hid (copiedP_below w ps)
  clear hv
  go_enter Try.func76, Try.ntmps76
  go_wp2_with fail
  go_ret
  exact ⟨⟨rfl, HR.out⟩, HB.out⟩

end Go.Proofs.Ytnofbeeihdgmdaa
