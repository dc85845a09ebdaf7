/-
  What stays where a call makes or writes other blocks; rows of a call's own; a struct in a block of its own; the row's last step. Conditions: each lemma's own.
-/
import Derived.Test.YtlfobdnjjbhehaaDoorRd
import Derived.Laws.OwnMore
import Derived.Deep.OwnRows
import Derived.Deep.RegionHeld3
import Derived.Deep.AppendLies
import Derived.Laws.AppendOwnNone
import Derived.Maps.AppendAt
import Derived.StillTailTactics
namespace Go.Proofs.YtlfobdnjjbhehaaDoor
open Go.RowKit Go.ChangeShapes Go.WideShapes

/-- w' is w with new blocks, and with writes to the blocks from lo to hi alone. -/
structure Within (lo hi : Nat) (w w' : World) : Prop where
  os : w'.os = w.os
  tape : w'.tape = w.tape
  output : w'.output = w.output
  size : w.heap.size ≤ w'.heap.size
  block : ∀ b, b < w.heap.size → b < lo ∨ hi ≤ b → w'.heap[b]? = w.heap[b]?
theorem Within.refl (lo hi : Nat) (w : World) : Within lo hi w w := ⟨rfl, rfl, rfl, Nat.le_refl _, fun _ _ _ => rfl⟩
theorem Within.trans {lo hi : Nat} {a b c : World} (h : Within lo hi a b) (k : Within lo hi b c) : Within lo hi a c :=
  ⟨k.os.trans h.os, k.tape.trans h.tape, k.output.trans h.output, Nat.le_trans h.size k.size, fun i hi' ho => (k.block i (Nat.lt_of_lt_of_le hi' h.size) ho).trans (h.block i hi' ho)⟩
theorem Within.mono {lo hi lo' hi' : Nat} {a b : World} (h : Within lo hi a b) (h1 : lo' ≤ lo) (h2 : hi ≤ hi') : Within lo' hi' a b :=
  ⟨h.os, h.tape, h.output, h.size, fun i hi ho => h.block i hi (by omega)⟩
theorem Within.of {lo hi : Nat} {a b : World} (h : Below a.heap.size a b) : Within lo hi a b := ⟨h.os, h.tape, h.output, h.size, fun i hi _ => h.block i hi⟩
theorem Within.below {lo hi : Nat} {a b : World} (h : Within lo hi a b) (hl : lo ≤ a.heap.size) : Below lo a b := ⟨h.os, h.tape, h.output, h.size, fun i hi => h.block i (by omega) (.inl hi)⟩
theorem Within.belowK {lo hi k : Nat} {a b : World} (h : Within lo hi a b) (h1 : k ≤ lo) (h2 : k ≤ a.heap.size) : Below k a b := ⟨h.os, h.tape, h.output, h.size, fun i hi => h.block i (by omega) (.inl (by omega))⟩
theorem Within.set (lo hi : Nat) (w : World) {a : Addr} (h1 : lo ≤ a.block) (h2 : a.block < hi) (u : Value) : Within lo hi w (w.setCell a u) :=
  ⟨rfl, rfl, rfl, by simp [World.setCell], fun i _ ho => Below.heap_setCell _ _ _ _ (by omega)⟩
theorem Within.set1 (g : Nat) (w : World) (i : Nat) (u : Value) : Within g (g + 1) w (w.setCell ⟨g, i, none⟩ u) := Within.set g (g + 1) w (Nat.le_refl _) (Nat.lt_succ_self _) u
theorem Within.rowIs {lo hi : Nat} {a b : World} (h : Within lo hi a b) {g n : Nat} {t : TypeId} {f : Nat → Value} (hr : a.rowIs g t n f) (ho : g < lo ∨ hi ≤ g) : b.rowIs g t n f := hr.of_block (h.block g hr.lt ho)
/-- 'make' of elements of two cells. -/
theorem run_make2 {P : Program} (t e : TypeId) (y z : Value) (bytes : Nat) (ht : P.underlying t = some (.slice e)) (hinfo : (P.info? e).map (fun i => (i.zero, i.size, i.bytes)) = some (some (.agg #[y, z]), 2, bytes))
    (n : Nat) (hb : bytes * n ≤ 281474976710656) (h63 : n ≤ 9223372036854775807) (w : World) :
    (Instr.makeSlice t (.int .i64 (n : Int)) (.int .i64 (n : Int))).run P w = .ok (.slice (some ⟨w.heap.size, 0, none⟩) n n) (w.alloc (.cells (madeCells #[y, z] (n * 2)) e)) := by
  obtain ⟨i, hi, hzz⟩ := Option.map_eq_some_iff.1 hinfo
  simp only [Prod.mk.injEq] at hzz
  obtain ⟨hz, hs, hbb⟩ := hzz
  have hb' : (i.bytes : Int) * (n : Int) ≤ 281474976710656 := by
    rw [hbb]
    have h : ((bytes * n : Nat) : Int) ≤ 281474976710656 := by omega
    rwa [Int.natCast_mul] at h
  have hr := run_make (P := P) w t e i (.agg #[y, z]) ht hi hz .i64 .i64 n n (by omega) (Int.le_refl _) hb' (by omega)
  simp only [Int.toNat_natCast, hs] at hr
  exact hr
theorem rowIs_made2 (w : World) (y z : Value) (n : Nat) (t : TypeId) : (w.alloc (.cells (madeCells #[y, z] (n * 2)) t)).rowIs w.heap.size t (n * 2) (fun j => if j % 2 = 0 then y else z) :=
  ⟨_, Deep.blk_alloc_new _ _, size_madeCells _ _, fun i hi => by
    rcases Nat.mod_two_eq_zero_or_one i with h | h <;> simp [madeCells, hi, h]⟩
/-- The slice that lies at the head of block g. -/
def headOf (g n : Nat) : Value := .slice (some ⟨g, 0, none⟩) n n
theorem maxLen_of {n : Nat} (h : n ≤ 1048576) : n ≤ maxLen := by unfold maxLen; omega
theorem ownsRow_keep {w w1 : World} {base : Nat} {e : TypeId} {size : Nat} {v : Value} {n : Nat} {xs : List Value} (h : w.ownsRow base e size v n xs) (hb : Below w.heap.size w w1) : w1.ownsRow base e size v n xs := by
  obtain ⟨h1, h2⟩ := h
  refine ⟨h1, ?_⟩
  rcases h2 with h2 | ⟨g, cap, cur, h3, h4, h5, h6⟩
  · exact .inl h2
  · exact .inr ⟨g, cap, cur, h3, h4, (hb.block _ (Array.getElem?_eq_some_iff.1 h5).1).trans h5, h6⟩
theorem own_block_ge {w : World} {base : Nat} {e : TypeId} {size : Nat} {v : Value} {n : Nat} {xs : List Value} (h : w.ownsRow base e size v n xs) : ∀ j, v.ownBlock = some j → base ≤ j := by
  intro j hj
  rcases h.2 with ⟨rfl, _⟩ | ⟨g, cap, cur, rfl, hg, _⟩
  · simp [Value.ownBlock] at hj
  · have : g = j := by simpa [Value.ownBlock] using hj
    omega
theorem own_block_lt {w : World} {base : Nat} {e : TypeId} {size : Nat} {v : Value} {n : Nat} {xs : List Value} (h : w.ownsRow base e size v n xs) : ∀ j, v.ownBlock = some j → j < w.heap.size := by
  intro j hj
  rcases h.2 with ⟨rfl, _⟩ | ⟨g, cap, cur, rfl, hg, hh, _⟩
  · simp [Value.ownBlock] at hj
  · have : g = j := by simpa [Value.ownBlock] using hj
    subst this
    exact (Array.getElem?_eq_some_iff.1 hh).1
/-- An operation as it is: the region's walk does not look into it ahead of its turn. -/
@[reducible] def oid (o : Oper) : Oper := o
/-- .. nor is it taken for a written one; the walk's own steps see through it. -/
def ohid (o : Oper) : Oper := o
@[simp] theorem ohid_eq (o : Oper) : ohid o = o := rfl
theorem hide1 {id : Nat} {o0 o1 : Oper} {rest : List Oper} {d : Bool} {P : Program} {Q : Exit → Act → World → Prop} {a : Act} {w : World} (h : (Code.region id (o0 :: oid o1 :: rest).toArray d).wp P Q a w) : (Code.region id (o0 :: o1 :: rest).toArray d).wp P Q a w := h
theorem gkeep {w w1 : World} {row : Option Nat} {b o : Nat} {v : Value} (hg : w.grownBy w1 row) (h : w.cell? ⟨b, o, none⟩ = some v) (hne : some b ≠ row) : w1.cell? ⟨b, o, none⟩ = some v :=
  (World.cell?_of_block (hg.block b (World.block_lt_of_cell? w ⟨b, o, none⟩ h) hne)).trans h
theorem gfkeep {w w1 : World} {row : Option Nat} {b o : Nat} (hg : w.grownBy w1 row) (h : w.frozen? ⟨b, o, none⟩ = false) (hlt : b < w.heap.size) (hne : some b ≠ row) : w1.frozen? ⟨b, o, none⟩ = false :=
  (World.frozen?_of_block (hg.block b hlt hne)).trans h
theorem afkeep {w : World} {o : Obj} {b i : Nat} (h : w.frozen? ⟨b, i, none⟩ = false) (hlt : b < w.heap.size) : (w.alloc o).frozen? ⟨b, i, none⟩ = false := (World.frozen?_alloc_past o b i hlt).trans h
theorem dfkeep {w : World} {a : Addr} (h : w.frozen? a = false) : w.drew.frozen? a = false := h
theorem bfkeep {W w1 : World} {b o : Nat} (hb : Below W.heap.size W w1) (h : W.frozen? ⟨b, o, none⟩ = false) (hlt : b < W.heap.size) : w1.frozen? ⟨b, o, none⟩ = false := (bfroz hb b o hlt).trans h
/-- Block p holds a set of tiles: its two slices. -/
structure At (w : World) (p : Nat) (vg vt : Value) : Prop where
  c0 : w.cell? ⟨p, 0, none⟩ = some vg
  c1 : w.cell? ⟨p, 1, none⟩ = some vt
theorem At.below {w w1 : World} {p : Nat} {vg vt : Value} (h : At w p vg vt) (hb : Below w.heap.size w w1) : At w1 p vg vt := ⟨cell_below hb h.c0, cell_below hb h.c1⟩
theorem At.lt {w : World} {p : Nat} {vg vt : Value} (h : At w p vg vt) : p < w.heap.size := World.block_lt_of_cell? w ⟨p, 0, none⟩ h.c0
theorem At.keep {lo hi : Nat} {w w1 : World} {p : Nat} {vg vt : Value} (h : At w p vg vt) (hw : Within lo hi w w1) (ho : p < lo ∨ hi ≤ p) : At w1 p vg vt :=
  ⟨(World.cell?_of_block (hw.block p h.lt ho)).trans h.c0, (World.cell?_of_block (hw.block p h.lt ho)).trans h.c1⟩
theorem At.new (w : World) (vg vt : Value) (t : TypeId) : At (w.alloc (.cells #[vg, vt] t)) w.heap.size vg vt := ⟨by simp [go_sem], by simp [go_sem]⟩
theorem Below.trodAll {H : Type} {enc : TypeId × Value → H} {P : Program} {W W' : World} (hl : laidOutB P = true) : ∀ {ts : List TypeId} {vs : List Value} {ds : List (DataW H)} {ps : List MemPlace},
    (ts.all fun t => P.readableRec t && decide (t < P.types.size)) = true → DataW.TrodAll enc P W 0 (fun _ => true) true ts vs ds ps → Below W.heap.size W W' → (∀ x ∈ ps, x.block < W.heap.size) →
    DataW.TrodAll enc P W' 0 (fun b => decide (b < W.heap.size)) true ts vs ds ps
  | [], vs, ds, ps, _, h, _, _ => by
    obtain ⟨rfl, rfl, rfl⟩ := trodAll_nil h
    rfl
  | t :: ts, vs, ds, ps, hr, h, hb, hlt => by
    obtain ⟨v, vs', d, ds', p, q, rfl, rfl, rfl, h1, h2⟩ := trodAll_cons h
    simp only [List.all_cons, Bool.and_eq_true, decide_eq_true_eq] at hr
    exact trodAll_cons_mk (Below.trod hl hr.1.1 hr.1.2 h1 hb fun x hx => hlt x (List.mem_append_left _ hx)) (Below.trodAll hl hr.2 h2 hb fun x hx => hlt x (List.mem_append_right _ hx))
/-- The row's last step, where the arguments lead to memory. -/
theorem post_mem {H : Type} {enc : TypeId × Value → H} {P : Program} {f : Func} {s : ChangeSpec} {W W' : World} {args : Array Value} {v : Value} {ds : List (DataW H)} {before pa : List MemPlace}
    (hl : laidOutB P = true) (hr : (f.params.toList.all fun t => P.readableRec t && decide (t < P.types.size)) = true)
    (hW : DataW.Whole enc P f.params.toList s.vars false W args.toList ds [] before)
    (hres : ∀ (b : Nat) (sp : Nat → Bool) (hd : Bool), DataW.TrodAll enc P W' b sp hd f.resultTypes.toList (v.resultList f.resultTypes.size) (s.fn H (ds ++ [])).results [])
    (hA : DataW.TrodAll enc P W 0 (fun _ => true) true f.params.toList args.toList ds pa) (hargs : (s.fn H (ds ++ [])).args = ds)
    (hvars : DataW.TrodVars enc P W' (fun b => decide (b < W.heap.size)) s.vars (s.fn H (ds ++ [])).vars [])
    (hps : before = pa) (hb : Below W.heap.size W W') : s.post enc P f false true false false W args v W' := by
  subst hps
  have hin : ∀ p, p ∈ before → p ∈ before ∧ (p ∈ ([] : List MemPlace) ∨ p ∈ before ∨ p ∈ ([] : List MemPlace)) := fun p hp => ⟨hp, Or.inr (Or.inl hp)⟩
  have hA' := Below.trodAll (W' := W') hl hr hA hb fun x hx => hW.lt x hx
  rw [← hargs] at hA'
  exact ⟨ds, [], before, [], before, [], hW, hres _ _ _, hA', hvars, World.keptBut_mono hin (hb.frame (· ∈ before)), fun h => nomatch h⟩
theorem grown_below {w w1 : World} {row : Option Nat} (h : w.grownBy w1 row) (hr : ∀ k, row = some k → w.heap.size ≤ k) : Below w.heap.size w w1 :=
  ⟨h.os, h.tape, h.output, h.size, fun k hk => h.block k hk (fun e => by have := hr k e.symm; omega)⟩
/-- What a row is, by its cells. -/
theorem row_fn {w : World} {base : Nat} {e : TypeId} {size : Nat} {g n cap : Nat} {xs : List Value} (h : w.ownsRow base e size (.slice (some ⟨g, 0, none⟩) n cap) n xs) :
    base ≤ g ∧ n ≤ cap ∧ cap ≤ maxLen ∧ ∃ f, w.rowIs g e (cap * size) f ∧ ∀ j, j < n * size → some (f j) = xs[j]? := by
  obtain ⟨hl, ⟨h, -⟩ | ⟨g', cap', cur, h, hg, hh, h1, h2, h3, h4⟩⟩ := h
  · simp at h
  · simp only [Value.slice.injEq, Option.some.injEq, Addr.mk.injEq, and_true, true_and] at h
    obtain ⟨rfl, rfl⟩ := h
    refine ⟨hg, h1, h2, fun j => cur.getD j undef, ⟨cur, hh, h3, fun i hi => ?_⟩, fun j hj => ?_⟩
    · show cur[i]? = some (cur.getD i undef)
      rw [Array.getD_eq_getD_getElem?, Array.getElem?_eq_getElem (show i < cur.size by omega)]; rfl
    · have hc : j < cur.size := by rw [h3]; exact Nat.lt_of_lt_of_le hj (Nat.mul_le_mul_right _ h1)
      rw [← h4, List.getElem?_take, if_pos hj, Array.getElem?_toList, Array.getElem?_eq_getElem hc]
      show some (cur.getD j undef) = _
      rw [Array.getD_eq_getD_getElem?, Array.getElem?_eq_getElem hc]; rfl
theorem Two.grown {w w1 : World} {b : Nat} {x y : Value} {row : Option Nat} (h : Two w b x y) (hg : w.grownBy w1 row) (hr : some b ≠ row) : Two w1 b x y :=
  ⟨(World.cell?_of_block (hg.block b h.lt hr)).trans h.c0, (World.cell?_of_block (hg.block b h.lt hr)).trans h.c1, (World.frozen?_of_block (hg.block b h.lt hr)).trans h.z0, (World.frozen?_of_block (hg.block b h.lt hr)).trans h.z1⟩
theorem Two.within {lo hi : Nat} {w w1 : World} {b : Nat} {x y : Value} (h : Two w b x y) (hw : Within lo hi w w1) (ho : b < lo ∨ hi ≤ b) : Two w1 b x y :=
  ⟨(World.cell?_of_block (hw.block b h.lt ho)).trans h.c0, (World.cell?_of_block (hw.block b h.lt ho)).trans h.c1, (World.frozen?_of_block (hw.block b h.lt ho)).trans h.z0, (World.frozen?_of_block (hw.block b h.lt ho)).trans h.z1⟩
/-- A slice that has no room where it has no address. -/
def Solid (v : Value) : Prop := v = .slice none 0 0 ∨ ∃ a n c, v = .slice (some a) n c
theorem lit1 {w : World} {n : Nat} (hn : n = w.heap.size) (e : TypeId) (size : Nat) : (w.alloc (.cells #[] e)).ownsRow n e size (.slice (some ⟨n, 0, none⟩) 0 0) 0 [] := by
  subst hn
  exact World.ownsRow_lit w #[] 0 (Nat.le_refl _) (by unfold maxLen; omega) (by simp)
theorem own_shape {w : World} {base : Nat} {e : TypeId} {size : Nat} {v : Value} {n : Nat} {xs : List Value} (h : w.ownsRow base e size v n xs) : ∃ a m c, v = .slice a m c := by
  rcases h.2 with ⟨rfl, _⟩ | ⟨g, cap, cur, rfl, _⟩
  · exact ⟨_, _, _, rfl⟩
  · exact ⟨_, _, _, rfl⟩
end Go.Proofs.YtlfobdnjjbhehaaDoor
