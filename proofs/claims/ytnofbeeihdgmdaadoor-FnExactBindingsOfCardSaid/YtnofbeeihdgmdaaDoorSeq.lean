/-
  A loop over a function whose rounds all go on: what an iterator gives, and the law of the loop; iterators that range over iterators. Conditions: each theorem's own.
-/
import Derived.Test.YtnofbeeihdgmdaaDoorBase
import Derived.RangeFuncNested
import Derived.RangeFuncBound
import Derived.RangeFuncCalls
import Derived.RangeFuncLeaves
import Derived.Shelf.Abstract
import Derived.Shelf.RegionOpen
import Derived.OwnWalkIn
import Derived.TacticsInMore
import Derived.LoopNIn
import Derived.LoopIn
import Derived.OrdersIn
import Derived.Deep.RegionHeld3
namespace Go.Proofs.YtnofbeeihdgmdaaDoor
open Go.RowKit

/-- A step of the iterator's: the blocks below B and those of C, which are the loop's, stay. -/
structure Aside (B : Nat) (C : Nat → Prop) (W W' : World) : Prop where
  os : W'.os = W.os
  tape : W'.tape = W.tape
  output : W'.output = W.output
  size : W.heap.size ≤ W'.heap.size
  block : ∀ k, k < W.heap.size → (k < B ∨ C k) → W'.heap[k]? = W.heap[k]?
/-- A step of the loop's: the blocks of N and those of the iterator, from B on and not of C, stay. -/
structure Spare (N : Nat → Prop) (B : Nat) (C : Nat → Prop) (W W' : World) : Prop where
  os : W'.os = W.os
  tape : W'.tape = W.tape
  output : W'.output = W.output
  size : W.heap.size ≤ W'.heap.size
  block : ∀ k, k < W.heap.size → (N k ∨ (B ≤ k ∧ ¬ C k)) → W'.heap[k]? = W.heap[k]?
theorem Aside.of {B : Nat} {C : Nat → Prop} {W W' : World} (h : Below W.heap.size W W') : Aside B C W W' := ⟨h.os, h.tape, h.output, h.size, fun k hk _ => h.block k hk⟩
theorem Aside.trans {B : Nat} {C : Nat → Prop} {W W' W'' : World} (h : Aside B C W W') (k : Aside B C W' W'') : Aside B C W W'' :=
  ⟨k.os.trans h.os, k.tape.trans h.tape, k.output.trans h.output, Nat.le_trans h.size k.size, fun j hj hc => (k.block j (Nat.lt_of_lt_of_le hj h.size) hc).trans (h.block j hj hc)⟩
theorem Aside.mono {B B' : Nat} {C : Nat → Prop} {W W' : World} (h : Aside B' C W W') (hB : B ≤ B') : Aside B C W W' := ⟨h.os, h.tape, h.output, h.size, fun k hk hc => h.block k hk (hc.elim (fun hc => .inl (by omega)) .inr)⟩
theorem Aside.below {B n : Nat} {C : Nat → Prop} {W W' : World} (h : Aside B C W W') (h1 : n ≤ B) (h2 : n ≤ W.heap.size) : Below n W W' := ⟨h.os, h.tape, h.output, h.size, fun k hk => h.block k (by omega) (.inl (by omega))⟩
theorem Aside.put {B : Nat} {C : Nat → Prop} {W : World} {l : Nat} (h1 : B ≤ l) (h2 : ¬ C l) (o : Obj) : Aside B C W (W.putObj l o) :=
  ⟨rfl, rfl, rfl, by simp, fun k _ hc => World.putObj_heap_other (by rintro rfl; exact hc.elim (fun hc => by omega) h2)⟩
theorem Aside.set {B : Nat} {C : Nat → Prop} {W : World} {a : Addr} (h1 : B ≤ a.block) (h2 : ¬ C a.block) (v : Value) : Aside B C W (W.setCell a v) :=
  ⟨rfl, rfl, rfl, by simp [World.setCell], fun k _ hc => Below.heap_setCell _ _ _ _ (by rintro rfl; exact hc.elim (fun hc => by omega) h2)⟩
theorem Spare.of {N : Nat → Prop} {B : Nat} {C : Nat → Prop} {W W' : World} (h : Below W.heap.size W W') : Spare N B C W W' := ⟨h.os, h.tape, h.output, h.size, fun k hk _ => h.block k hk⟩
theorem Spare.trans {N : Nat → Prop} {B : Nat} {C : Nat → Prop} {W W' W'' : World} (h : Spare N B C W W') (k : Spare N B C W' W'') : Spare N B C W W'' :=
  ⟨k.os.trans h.os, k.tape.trans h.tape, k.output.trans h.output, Nat.le_trans h.size k.size, fun j hj hc => (k.block j (Nat.lt_of_lt_of_le hj h.size) hc).trans (h.block j hj hc)⟩
theorem Spare.mono {N : Nat → Prop} {B B' : Nat} {C : Nat → Prop} {W W' : World} (h : Spare N B' C W W') (h2 : B' ≤ B) : Spare N B C W W' :=
  ⟨h.os, h.tape, h.output, h.size, fun k hk hc => h.block k hk (hc.elim .inl fun hc => .inr ⟨by omega, hc.2⟩)⟩
theorem Spare.set {N : Nat → Prop} {B : Nat} {C : Nat → Prop} {W : World} {a : Addr} (h1 : ¬ N a.block) (h2 : a.block < B ∨ C a.block) (v : Value) : Spare N B C W (W.setCell a v) :=
  ⟨rfl, rfl, rfl, by simp [World.setCell], fun k _ hc => Below.heap_setCell _ _ _ _ (by rintro rfl; exact hc.elim h1 fun hc => h2.elim (fun h2 => by omega) hc.2)⟩
theorem Spare.put {N : Nat → Prop} {B : Nat} {C : Nat → Prop} {W : World} {l : Nat} (h1 : ¬ N l) (h2 : l < B) (o : Obj) : Spare N B C W (W.putObj l o) :=
  ⟨rfl, rfl, rfl, by simp, fun k _ hc => World.putObj_heap_other (by rintro rfl; exact hc.elim h1 fun hc => by omega)⟩
theorem Spare.below {N : Nat → Prop} {B n : Nat} {C : Nat → Prop} {W W' : World} (h : Spare N B C W W') (h1 : ∀ k, k < n → N k) (h2 : n ≤ W.heap.size) : Below n W W' := ⟨h.os, h.tape, h.output, h.size, fun k hk => h.block k (by omega) (.inl (h1 k hk))⟩

/-- The iterator gives these elements, in this order: to a loop that owns the blocks below the iterator's and those of C, which may grow, whose rounds all go on and leave the blocks of N and the iterator's alone. -/
def Gives {α : Type} (P : Program) (g : Nat) (lb : Array Value) (encs : α → Array Value) (N : Nat → Prop) (xs : List α) (w : World) : Prop :=
  ∀ (l : Nat) (J : List α → (Nat → Prop) → World → Prop) (C : Nat → Prop) (W : World), Below w.heap.size w W → (∀ k, C k → k < W.heap.size) →
    (∀ pre C A B, J pre C A → Aside W.heap.size C A B → J pre C B) →
    (∀ pre C x W1, J pre C W1 → (∀ k, C k → k < W1.heap.size) → W.heap.size ≤ W1.heap.size → pre ++ [x] <+: xs → YieldAt Fence.wide 9 P l (encs x) W1 fun e W' =>
      e = .returned (.bool true) ∧ ∃ C', J (pre ++ [x]) C' W' ∧ (∀ k, C' k → (C k ∨ W1.heap.size ≤ k) ∧ k < W'.heap.size) ∧ Spare N W.heap.size C W1 W') →
    J [] C W →
    Calls P g (#[.func (.yield l) #[] #[]] ++ lb) W fun e W' => (∃ v, e = .returned v) ∧ ∃ C', J xs C' W' ∧ W.heap.size ≤ W'.heap.size

theorem roundIn_wide {m n : Nat} {P : Program} {l : Nat} {f : FuncId} {tmps : Array Value} {assign body : Code} {w : World} {R : Ending → World → Prop} (h : RoundIn Fence.wide m P l f tmps assign body w R) : RoundIn Fence.wide n P l f tmps assign body w R :=
  ⟨h.1, fun c cs _ => h.2 c cs (room_wide _)⟩

/-- **The law of the loop.** -/
theorem wpIn_give {α : Type} {P : Program} {g : Operand} {ps : Array Tmp} {assign body : Code} {Q : Exit → Act → World → Prop} {a : Act} {w : World} {gf : Nat} {lb : Array Value} {encs : α → Array Value} {N : Nat → Prop} {xs : List α} {w0 : World} {m : Nat}
    (hg : a.eval g = .func (.func gf) #[] lb) (eg : ∀ args w, (callFunc gf args).run P w = .ok (.enter gf args) w)
    (hseq : Gives P gf lb encs N xs w0) (hb0 : Below w0.heap.size w0 w) (hn : ∀ k, N k → k < w.heap.size) (hps : ∀ x, (encs x).size = ps.size)
    (I : List α → (Nat → Prop) → World → Prop) (hI : ∀ pre C A B, I pre C A → Aside w.heap.size C A B → I pre C B) (C0 : Nat → Prop) (hC0 : ∀ k, C0 k → k < w.heap.size) (h0 : I [] C0 w)
    (Ax : α → Act → World → Prop) (hAx : ∀ x a', Own (fun (_ : Unit) W => Ax x a' W))
    (hassign : ∀ (l : Nat) (pre : List α) (C : Nat → Prop) (x : α) (W : World) (K : Act → World → Prop), I pre C W → (∀ a' W', Below W.heap.size W W' → Ax x a' W' → K a' W') →
      assign.wpIn (Fence.wide.inRound l) 9 P (Exit.then K (fun _ _ _ => False)) { tmps := (ps.zip (encs x)).foldl (fun t (p, v) => t.setIfInBounds p v) a.tmps, defers := [] } W)
    (hbody : ∀ (l : Nat) (pre : List α) (C : Nat → Prop) (x : α) (a' : Act) (W : World), w.heap.size + 2 ≤ W.heap.size → (∀ k, C k → k < W.heap.size) → I pre C W → Ax x a' W → pre ++ [x] <+: xs →
      body.wpIn (Fence.wide.inRound l) 9 P (fun e _ W' => e = .normal ∧ ∃ C', I (pre ++ [x]) C' W' ∧ (∀ k, C' k → (C k ∨ W.heap.size ≤ k) ∧ k < W'.heap.size) ∧ Spare N w.heap.size C W W') a' W)
    (hdone : ∀ (C : Nat → Prop) (W : World), w.heap.size + 2 ≤ W.heap.size → I xs C W → ¬ C w.heap.size → W.heap[w.heap.size]? = some (.deferred (some [])) →
      Q .normal { a with defers := { target := .collected w.heap.size, args := #[] } :: a.defers } W) :
    (Code.rangeFunc g ps assign body).wpIn Fence.wide m P Q a w := by
  refine wpIn_rangeFunc fun fn hfn => ?_
  obtain ⟨rec, hrec⟩ : ∃ rec : LoopState → Loop, rec = fun st => { state := st, pending := none, fn, tmps := a.tmps, params := ps, assign, body, defers := w.heap.size } := ⟨_, rfl⟩
  obtain ⟨V, hV⟩ : ∃ V, V = (w.alloc (.deferred (some []))).alloc (.loop (rec .ready)) := ⟨_, rfl⟩
  have zV : V.heap.size = w.heap.size + 2 := by rw [hV]; simp
  have bV : Below w.heap.size w V := by rw [hV]; exact ((Below.refl _ w).alloc (Nat.le_refl _) _).alloc (by simp) _
  have lV : V.heap[w.heap.size + 1]? = some (.loop (rec .ready)) := by
    have := World.alloc_heap_new (w.alloc (.deferred (some []))) (.loop (rec .ready))
    rw [World.size_alloc] at this
    rw [hV]; exact this
  have dV : V.heap[w.heap.size]? = some (.deferred (some [])) := by rw [hV]; exact (Below.heap_alloc _ _ _ (by simp)).trans (World.alloc_heap_new w _)
  refine ⟨w.heap.size + 1, [{ target := .collected w.heap.size, args := #[] }], V, { target := .fn (.func gf) lb, args := #[.func (.yield (w.heap.size + 1)) #[] #[]] }, V, gf, #[.func (.yield (w.heap.size + 1)) #[] #[]] ++ lb, V, ?_, ?_, fun _ _ => trivial, ?_, fun h => by simp [Fence.wide] at h, ?_⟩
  · rw [hV, hrec]; exact run_enterLoop_outer _ _ _ _ _
  · simp only [resolve, hg]; simp [go_sem]
  · simp [invoke, go_sem, eg]
  rw [callsIn_wide]
  refine (hseq (w.heap.size + 1) (fun pre C W => I pre C W ∧ W.heap[w.heap.size + 1]? = some (.loop (rec .ready)) ∧ W.heap[w.heap.size]? = some (.deferred (some [])) ∧ ∀ k, C k → k < w.heap.size ∨ w.heap.size + 2 ≤ k) C0 V
    (hb0.trans (bV.mono hb0.size)) (fun k hk => by have := hC0 k hk; omega) ?_ ?_ ⟨hI _ _ _ _ h0 (Aside.of bV), lV, dV, fun k hk => .inl (hC0 k hk)⟩).mono ?_
  · rintro pre C A B ⟨h1, h2, h3, h4⟩ hs
    have z2 := (Array.getElem?_eq_some_iff.1 h2).1
    exact ⟨hI _ _ _ _ h1 (hs.mono (by omega)), (hs.block _ z2 (.inl (by omega))).trans h2, (hs.block _ (by omega) (.inl (by omega))).trans h3, h4⟩
  · rintro pre C x W ⟨hi, hl, hd, hc⟩ hCW hle hpre
    have hy := run_yield (P := P) (args := encs x) hl (by rw [hrec]; exact hps x)
    rw [hrec] at hy
    refine ⟨fn, _, assign, body, hy, roundIn_of_wpIn hfn (hassign _ pre C x W _ hi ?_)⟩
    clear hy
    intro a' W1 b1 hx
    have z1 := b1.size
    have zl := (Array.getElem?_eq_some_iff.1 hl).1
    have hl1 := (b1.block _ zl).trans hl
    have hd1 := (b1.block _ (by omega)).trans hd
    have nC : ¬ C (w.heap.size + 1) := fun h => by have := hc _ h; omega
    refine ⟨_, run_beginRound hl1 (by rw [hrec]), ?_⟩
    have i2 : I pre C (W1.putObj (w.heap.size + 1) (.loop { rec .ready with state := .busy })) := hI _ _ _ _ (hI _ _ _ _ hi (Aside.of b1)) (Aside.put (by omega) nC _)
    have x2 : Ax x a' (W1.putObj (w.heap.size + 1) (.loop { rec .ready with state := .busy })) := (hAx x a').putObj (s := ()) _ hx hl1 rfl
    have l2 : (W1.putObj (w.heap.size + 1) (.loop { rec .ready with state := .busy })).heap[w.heap.size + 1]? = some (.loop { rec .ready with state := .busy }) := World.putObj_heap_same (by omega)
    have d2 : (W1.putObj (w.heap.size + 1) (.loop { rec .ready with state := .busy })).heap[w.heap.size]? = some (.deferred (some [])) := (World.putObj_heap_other (by omega)).trans hd1
    have nN : ¬ N (w.heap.size + 1) := fun h => by have := hn _ h; omega
    have s2 : Spare N V.heap.size C W (W1.putObj (w.heap.size + 1) (.loop { rec .ready with state := .busy })) := (Spare.of b1).trans (Spare.put nN (by omega) _)
    have z2 : (W1.putObj (w.heap.size + 1) (.loop { rec .ready with state := .busy })).heap.size = W1.heap.size := by simp
    generalize W1.putObj (w.heap.size + 1) (.loop { rec .ready with state := .busy }) = W2 at i2 x2 l2 d2 s2 z2
    refine wpIn_mono (hbody _ pre C x a' W2 (by omega) (fun k hk => by have := hCW k hk; omega) i2 x2 hpre) ?_
    rintro e a3 W3 ⟨rfl, C', i3, c3, s3⟩
    have nC' : ¬ C' (w.heap.size + 1) := fun h => by
      rcases (c3 _ h).1 with h | h
      · exact nC h
      · omega
    have nD : ¬ C w.heap.size := fun h => by have := hc _ h; omega
    have hl3 := (s3.block (w.heap.size + 1) (by omega) (.inr ⟨by omega, nC⟩)).trans l2
    have hd3 := (s3.block w.heap.size (by omega) (.inr ⟨by omega, nD⟩)).trans d2
    have z3 := s3.size
    have hend := run_endRound (P := P) none hl3
    refine ⟨_, _, hend, rfl, C', ⟨hI _ _ _ _ i3 (Aside.put (by omega) nC' _), ?_, (World.putObj_heap_other (by omega)).trans hd3, fun k hk => ?_⟩, fun k hk => ?_, (s2.trans (s3.mono (by omega))).trans (Spare.put nN (by omega) _)⟩
    · have := World.putObj_heap_same (w := W3) (o := .loop { ({ rec .ready with state := .busy } : Loop) with state := if (none : Option Code).isNone then .ready else .done, pending := none }) (show w.heap.size + 1 < W3.heap.size by omega)
      rw [this, hrec]; rfl
    · rcases (c3 k hk).1 with h | h
      · exact hc k h
      · exact .inr (by omega)
    · refine ⟨?_, by have := (c3 k hk).2; simpa using this⟩
      rcases (c3 k hk).1 with h | h
      · exact .inl h
      · exact .inr (by omega)
  · rintro e W ⟨⟨v, rfl⟩, C, ⟨hi, hl, hd, hc⟩, hle⟩
    have nC : ¬ C (w.heap.size + 1) := fun h => by have := hc _ h; omega
    have hend := run_endLoop (P := P) hl (by rw [hrec]; simp)
    rw [show (rec .ready).pending = none by rw [hrec]] at hend
    exact ⟨none, _, hend, hdone C _ (by simp; omega) (hI _ _ _ _ hi (Aside.put (by omega) nC _)) (fun h => by have := hc _ h; omega) ((World.putObj_heap_other (by omega)).trans hd)⟩
/-- Off the end alone. -/
def onlyN (Q : Exit → Act → World → Prop) : Exit → Act → World → Prop
  | .normal, a, w => Q .normal a w
  | _, _, _ => False
/-- No operation defers a call. -/
def noDefer (ops : Array Oper) : Bool := ops.all fun o => match o.op with
  | .defer _ => false
  | _ => true
theorem noDefer_at {ops : Array Oper} (h : noDefer ops = true) {i : Nat} {o : Oper} (ho : ops[i]? = some o) : ∀ c, o.op ≠ .defer c := by
  obtain ⟨hi, rfl⟩ := Array.getElem?_eq_some_iff.1 ho
  have := (Array.all_eq_true.1 h) i hi
  intro c hc
  rw [hc] at this
  exact absurd this (by simp)
theorem rowsIn_of {l n : Nat} {P : Program} {row : String} {args : Array Value} {w : World} {R R' : Value → World → Prop} (h : Rows P row args w R) (hr : ∀ v w, R v w → R' v w) : RowsIn (Fence.wide.inRound l) n P row args w R' :=
  fun c cs _ => let ⟨v, w', h1, h2⟩ := h c cs; ⟨v, w', hr _ _ h1, stepsIn_wide.2 h2⟩
theorem wpOpIn_of {l n : Nat} {P : Program} {ops : Array Oper} {Q : Exit → Act → World → Prop} (hd : noDefer ops = true) {i : Nat} {K K' : Act → World → Prop} {a : Act} {w : World} (hK : ∀ a w, K a w → K' a w) (h : wpOp P ops (onlyN Q) i K a w) :
    wpOpIn (Fence.wide.inRound l) n P ops Q i K' a w := by
  unfold wpOp at h
  unfold wpOpIn
  split
  · rename_i h0
    rw [h0] at h
    exact hK _ _ h
  · rename_i o ho
    simp only [ho] at h
    split
    · rename_i hw
      simp only [hw, if_true] at h
      rcases h with h | ⟨-, a', w', hf⟩
      · refine ⟨fun _ _ => trivial, ?_⟩
        rw [Oper.semAt_plain _ _ _ (noDefer_at hd ho)]
        unfold Oper.wp at h
        generalize (execOp a.eval o).run P w = r at *
        have hdp : ((Fence.wide.inRound l).depth.isSome = true → 1 ≤ n) := fun h => by simp [Fence.wide] at h
        cases r with
        | ok x w' =>
          cases x with
          | value v => exact hK _ _ h
          | skip => exact hK _ _ h
          | defer d => exact hK _ _ h
          | enter f args =>
            refine ⟨hdp, CallsIn.inRound l (callsIn_wide.2 (Calls.mono h fun e w'' he => ?_))⟩
            cases e with
            | returned v => exact hK _ _ he
            | panicked c => exact False.elim he
            | outgrown => exact False.elim (let ⟨_, _, hf⟩ := he; hf)
          | row row args => exact ⟨hdp, rowsIn_of h fun v w he => hK _ _ he⟩
          | _ => exact False.elim h
        | halt x w' =>
          cases x with
          | panic v => exact False.elim h
          | _ => exact False.elim h
      · exact False.elim hf
    · rename_i hw
      simp only [hw] at h
      exact ⟨fun _ _ => trivial, hK _ _ h⟩
theorem wpAnyIn_of {l n : Nat} {P : Program} {md : Region.Mode} {ops : Array Oper} {Q : Exit → Act → World → Prop} (hd : noDefer ops = true) : ∀ (fuel : Nat) (listed : Array Bool) (a : Act) (w : World), wpAny P md ops (onlyN Q) fuel listed a w → wpAnyIn (Fence.wide.inRound l) n P md ops Q fuel listed a w
  | 0, _, _, _, h => h
  | fuel + 1, _, _, _, h => ⟨h.1, fun i hi => wpOpIn_of hd (fun a w h => wpAnyIn_of hd fuel _ a w h) (h.2 i hi)⟩
/-- A region that draws its order, in a round: as everywhere. -/
theorem wpIn_region_round {l n : Nat} {P : Program} {ops : Array Oper} {Q : Exit → Act → World → Prop} {S : World → Prop} {id : Nat} {a : Act} {w : World} (hm : P.follows .mixedOrders = true) (hd : noDefer ops = true) (hS : S w.drew)
    (h : S w.drew → wpAnyH P .any ops (onlyN Q) S ops.size (Array.replicate ops.size false) a w.drew) : (Code.region id ops true).wpIn (Fence.wide.inRound l) n P Q a w :=
  wpIn_region_any hm (wpAnyIn_of hd _ _ _ _ (wpAny_of_held _ _ _ _ (h hS)))
end Go.Proofs.YtnofbeeihdgmdaaDoor
