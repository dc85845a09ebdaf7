/-
  A builder of texts that a call has made: writing a text into it, and what stays of it where others make memory. Conditions: each theorem's own.
-/
import Derived.Test.YtggpmailkkpdaaaDoorShelfB
import Derived.Test.YtggpmailkkpdaaaDoorKeep
import Derived.Lib.Builder
import Derived.Lib.AppendStr
import Derived.Lib.UnsafeStr
import Derived.Laws.Externs
namespace Go.Proofs.YtggpmailkkpdaaaDoor
open Go.RowKit

/-- The builder in block b holds these bytes. -/
def Bld (w : World) (B b : Nat) (l : List UInt8) : Prop := Lib.IsBuilder 65 5 B b (Lib.byteCells l) w
theorem bld_of {w : World} {B b : Nat} {l : List UInt8} (h : Bld w B b l) : ∃ p, Lib.BuilderAt 65 5 B b p (Lib.byteCells l) w := by
  rcases h with h | h
  · exact ⟨_, h⟩
  · exact ⟨_, h⟩
theorem bat_below {w w1 : World} {B b : Nat} {p : Value} {bs : List Value} (h : Lib.BuilderAt 65 5 B b p bs w) (hb : Below w.heap.size w w1) : Lib.BuilderAt 65 5 B b p bs w1 := by
  have hlt := h.lt
  obtain ⟨hB, v, hbk, hown, hne⟩ := h
  exact ⟨hB, v, (hb.block b hlt).trans hbk, ownsRow_keep hown hb, hne⟩
theorem Bld.below {w w1 : World} {B b : Nat} {l : List UInt8} (h : Bld w B b l) (hb : Below w.heap.size w w1) : Bld w1 B b l := by
  rcases h with h | h
  · exact .inl (bat_below h hb)
  · exact .inr (bat_below h hb)
theorem Bld.lt {w : World} {B b : Nat} {l : List UInt8} (h : Bld w B b l) : b < w.heap.size := by obtain ⟨p, h⟩ := bld_of h; exact h.lt
theorem Bld.ge {w : World} {B b : Nat} {l : List UInt8} (h : Bld w B b l) : B ≤ b := by obtain ⟨p, h⟩ := bld_of h; exact h.1
theorem Bld.new (w : World) : Bld (w.alloc (.cells #[.pointer none, .slice none 0 0] 65)) w.heap.size w.heap.size [] :=
  .inl ⟨Nat.le_refl _, .slice none 0 0, heap_alloc_new w _, World.ownsRow_nil _ _ _ _, by simp [Value.ownBlock]⟩
theorem info_u8 : (Tryd.prog.info? 5).map (fun i => (i.zero, i.size, i.bytes)) = some (some (.int .u8 0), 1, 1) := by kernel_rfl
theorem sizeB : (Tryd.prog.info? 65).map (·.size) = some 2 := by kernel_rfl
theorem liesB : liesAt Tryd.prog Tryd.prog.depth 65 (2 / Tryd.prog.cellsOf 65) 0 65 1 = true := by kernel_rfl

/-- What is no row of bytes and no builder lies as it lay. -/
def Rest (b : Nat) (w w' : World) : Prop := ∀ (c : Nat) (cs : Array Value) (T : TypeId) (fr : Nat × Nat), w.heap[c]? = some (.cells cs T fr) → c ≠ b → T ≠ 5 → w'.heap[c]? = some (.cells cs T fr)
set_option maxRecDepth 100000 in
set_option maxHeartbeats 1000000 in
theorem copyCheck_any (B b : Nat) (bs : List Value) (w : World) (h : Lib.IsBuilder 65 5 B b bs w) :
    Calls Tryd.prog 72 #[.pointer (some ⟨b, 0, none⟩)] w fun e w' => e = .returned (.tuple #[]) ∧ Lib.BuilderAt 65 5 B b (.pointer (some ⟨b, 0, none⟩)) bs w' ∧ Below B w w' ∧ Rest b w w' := by
  obtain ⟨j, hj, hjs⟩ := Option.map_eq_some_iff.1 sizeB
  rcases h with h | h
  · have c0 := h.cell0
    have z0 := h.frozen0
    have sh := h.shape
    go_enter Tryd.func72, Tryd.ntmps72
    go_wp2_with fail
    rw [Lib.run_to_unsafe w ⟨b, 0, none⟩ Tryd.underlying62 Tryd.underlying143 hj (by rw [hjs]; decide) sh (Nat.zero_lt_succ 1)]
    simp only [Result.andThen]
    rw [Oper.upon_value]
    go_wp2_with fail
    rw [run_callFunc_extern Tryd.func101 (by kernel_rfl) (by kernel_rfl) (by kernel_rfl) (e := Extern.AbiNoEscape.same) (by kernel_rfl), Lib.run_noEscape]
    simp only [Result.andThen]
    rw [Oper.upon_value]
    go_wp2_with fail
    rw [Lib.run_from_unsafe w ⟨b, 0, none⟩ Tryd.underlying143 Tryd.underlying62 hj sh liesB]
    simp only [Result.andThen]
    rw [Oper.upon_value]
    go_wp2_with fail
    go_end0
    exact ⟨rfl, h.used _, (Below.refl B w).setCell (p := ⟨b, 0, none⟩) h.1 _, fun c cs T fr hc hne _ => (Below.heap_setCell _ _ _ _ (fun e => hne e)).trans hc⟩
  · have c0 := h.cell0
    go_enter Tryd.func72, Tryd.ntmps72
    go_wp2_with fail
    rw [Lib.run_neq_ptr_same w _ Tryd.underlying62 hj]
    go_wp2
    go_end0
    exact ⟨rfl, h, Below.refl B _, fun _ _ _ _ hc _ _ => hc⟩

theorem hbk_grow {w1 w2 : World} {b : Nat} {p v : Value} {T : TypeId} (hbk : w1.heap[b]? = some (.cells #[p, v] T (0, 0))) (hlt : b < w1.heap.size) (hne : v.ownBlock ≠ some b) (hg : w1.grownBy w2 v.ownBlock) : w2.heap[b]? = some (.cells #[p, v] T (0, 0)) := by
  rw [hg.block b hlt (fun e => hne e.symm)]
  exact hbk
theorem row_shape {w : World} {B n size : Nat} {e : TypeId} {v : Value} {xs : List Value} (h : w.ownsRow B e size v n xs) : ∃ ao k cap, v = .slice ao k cap := by
  rcases h.2 with ⟨hv, _⟩ | ⟨g, cap, cur, hv, _⟩
  · exact ⟨_, _, _, hv⟩
  · exact ⟨_, _, _, hv⟩
/-- What a write returns. -/
def WroteN (s : ByteArray) : Value := .tuple #[.int .i64 s.size, .nilIface]
set_option maxRecDepth 100000 in
set_option maxHeartbeats 1000000 in
theorem writeString_any (B b : Nat) (l : List UInt8) (s : ByteArray) (w : World) (h : Bld w B b l) (hlen : l.length + s.size ≤ 140737488355328) (hB : B ≤ w.heap.size) :
    Calls Tryd.prog 35 #[.pointer (some ⟨b, 0, none⟩), .string s] w fun e w' => e = .returned (WroteN s) ∧ Bld w' B b (l ++ s.data.toList) ∧ Below B w w' ∧ Rest b w w' := by
  obtain ⟨i0, hi, hz0, hz1, hz2⟩ := info_parts info_u8
  go_enter Tryd.func35, Tryd.ntmps35
  go_wp2_with fail
  refine (copyCheck_any B b _ _ h).mono ?_
  rintro e w1 ⟨rfl, h1, hb1, hr1⟩
  have s1 := hb1.size
  have hlt := h1.lt
  obtain ⟨hB2, v, hbk, hown, hne⟩ := h1
  have c1 : w1.cell? ⟨b, 1, none⟩ = some v := by rw [Lib.cell_of_heap hbk]; rfl
  have hbl := Lib.byteCells_length l
  go_wp2_with (at_builtin; refine Lib.wpList_append_own_string _ rfl _ _ 63 9 rfl B 5 i0 Tryd.underlying63 Tryd.underlying9 hi hz0 hz1 hz2 _ _ _ rfl hown s rfl (by unfold maxLen; omega) (by omega) (by omega) ?_; intro v' w2 hown' hgrow _; have hb2 := Lib.hid (hbk_grow hbk hlt hne hgrow); have d1 : w2.cell? ⟨b, 1, none⟩ = some v := (by rw [Lib.cell_of_heap hb2.out]; rfl); have f1 : w2.frozen? ⟨b, 1, none⟩ = false := Lib.frozen_of_heap hb2.out 1; obtain ⟨ao, n', cap, rfl⟩ := row_shape hown')
  go_ret2
  refine ⟨rfl, .inr ?_, ?_, fun c cs T fr hc hne2 hT => ?_⟩
  · have e : Lib.byteCells (l ++ s.data.toList) = Lib.byteCells l ++ Lib.strCells s := by rw [Lib.strCells_eq]; simp [Lib.byteCells]
    rw [e]
    exact Lib.BuilderAt.put (T := 65) (e := 5) hB2 hb2.out (bs' := Lib.byteCells l ++ Lib.strCells s) (by simpa [Lib.strCells_length] using hown') (by decide)
  · exact (hb1.grown hgrow (by omega) (fun k hk => (hown.lt k hk).1)).setCell (p := ⟨b, 1, none⟩) hB2 _
  · have hc1 := hr1 c cs T fr hc hne2 hT
    have hcl : c < w1.heap.size := (Array.getElem?_eq_some_iff.1 hc1).1
    rw [Below.heap_setCell _ _ _ _ (fun e => hne2 e), hgrow.block c hcl (fun e => ?_)]
    · exact hc1
    · exact Lib.ownBlock_ne hown hc1 hT e.symm

end Go.Proofs.YtggpmailkkpdaaaDoor
