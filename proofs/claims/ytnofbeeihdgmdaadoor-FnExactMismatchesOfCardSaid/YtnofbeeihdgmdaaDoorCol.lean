/-
  The library's collecting of a list of bonds out of an iterator. Conditions: each theorem's own.
-/
import Derived.Test.YtnofbeeihdgmdaaDoorBdM
import Derived.Maps.OwnIn
namespace Go.Proofs.YtnofbeeihdgmdaaDoor
open Go.RowKit Go.Shelf
attribute [local go_sem] Oper.semAt_some

theorem One.at_block {w w1 : World} {b : Nat} {x : Value} (h : One w b x) (hb : w1.heap[b]? = w.heap[b]?) : One w1 b x :=
  ⟨(World.cell?_of_block (a := ⟨b, 0, none⟩) hb).trans h.c0, (World.frozen?_of_block (a := ⟨b, 0, none⟩) hb).trans h.z0⟩
theorem row_of_blocks {w w1 : World} {base : Nat} {e : TypeId} {size : Nat} {v : Value} {n : Nat} {xs : List Value} (h : w.ownsRow base e size v n xs) (hb : ∀ j, v.ownBlock = some j → w1.heap[j]? = w.heap[j]?) : w1.ownsRow base e size v n xs := by
  obtain ⟨h1, h2⟩ := h
  refine ⟨h1, ?_⟩
  rcases h2 with h2 | ⟨g, cap, cur, rfl, h4, h5, h6⟩
  · exact .inl h2
  · exact .inr ⟨g, cap, cur, rfl, h4, (hb g (by simp [Value.ownBlock])).trans h5, h6⟩
theorem Spare.grown {N : Nat → Prop} {B : Nat} {C : Nat → Prop} {W W' : World} {row : Option Nat} (h : W.grownBy W' row) (hr : ∀ j, row = some j → ¬ N j ∧ (j < B ∨ C j)) : Spare N B C W W' :=
  ⟨h.os, h.tape, h.output, h.size, fun k hk hc => h.block k hk fun e => by
    obtain ⟨h1, h2⟩ := hr k e.symm
    exact hc.elim h1 fun hc => h2.elim (fun h2 => by omega) hc.2⟩
theorem box_thr {sb : Nat} (b : Nat) (x y t : Value) : Own (fun (_ : Unit) W => Thr W b x y t ∧ sb ≠ b) := fun s X Y row h hg hr => ⟨thr_own b _ _ _ s X Y row h.1 hg hr, h.2⟩

set_option maxRecDepth 100000 in
set_option maxHeartbeats 8000000 in
set_option linter.unusedSimpArgs false in
theorem appendSeq_any (gf : Nat) (lb : Array Value) (N : Nat → Prop) (xs : List Bd) (w : World) (hg : Gives Tryd.prog gf lb encB N xs w) (eg : ∀ args w, (callFunc gf args).run Tryd.prog w = .ok (.enter gf args) w) (hx : xs.length ≤ 1000) (hN : ∀ k, N k → k < w.heap.size) :
    Calls Tryd.prog 89 #[.slice none 0 0, .func (.func gf) #[] lb] w fun e w' => (∃ v', e = .returned v' ∧ OwnB w' w.heap.size w'.heap.size v' xs) ∧ Below w.heap.size w w' := by
  obtain ⟨i0, hi, hz0, hz1, hz2⟩ := info_parts info_bond
  rw [← callsIn_wide (n := 9)]
  refine callsIn_of_wp_marks Tryd.func89 rfl trivial ?_ rfl
  simp only [Tryd.ntmps89, List.size_toArray, List.length_cons, List.length_nil, Nat.reduceAdd, Nat.reduceSub, Array.replicate_succ, Array.replicate_zero, List.push_toArray, List.append_toArray, List.nil_append, List.cons_append]
  gi_wp2
  obtain ⟨W, hW⟩ : ∃ W, W = w.alloc (.cells #[.slice none 0 0] 51) := ⟨_, rfl⟩
  have zW : W.heap.size = w.heap.size + 1 := by rw [hW]; simp
  have bW : Below w.heap.size w W := by rw [hW]; exact (Below.refl _ w).alloc (Nat.le_refl _) _
  have SB : One W w.heap.size (.slice none 0 0) := by rw [hW]; exact ⟨by simp [go_sem], by simp [go_sem]⟩
  rw [← hW]
  clear hW
  refine wpIn_give_box (xs := xs) (N := N) (encs := encB) rfl eg hg bW (fun k h => by have := hN k h; omega) (fun _ => rfl)
    (fun pre C W' => (∃ v, (∀ k, C k ↔ v.ownBlock = some k) ∧ One W' w.heap.size v ∧ BRow W' (w.heap.size + 1) v pre) ∧ Below w.heap.size w W') ?abide (fun _ => False) (fun k h => h.elim)
    ⟨⟨_, fun k => by simp [Value.ownBlock], SB, World.ownsRow_nil _ _ _ _⟩, bW⟩
    (fun x Bx W' => Thr W' Bx (.int .i64 (x.a : Int)) (.int .i64 (x.b : Int)) (.int .i64 x.s) ∧ w.heap.size ≠ Bx) (fun x Bx => box_thr Bx _ _ _) ?actF ?assign ?body ?done
  case abide =>
    rintro pre C A B ⟨⟨v, h1, h2, h3⟩, h4⟩ hs
    exact ⟨⟨v, h1, h2.at_block (hs.block _ h2.lt (.inl (by omega))), row_of_blocks h3 fun j hj => hs.block j (own_block_lt h3 j hj) (.inr ((h1 j).2 hj))⟩, h4.trans (hs.below (by omega) h4.size)⟩
  case assign =>
    rintro l2 pre C x W' K hi' hK
    dsimp only [encB]
    gi_wp2
    obtain ⟨v, -, hone, -⟩ := hi'.1
    have hlt := hone.lt
    have hT3 : Thr (W'.alloc (.cells #[.int .i64 (x.a : Int), .int .i64 (x.b : Int), .int .i64 x.s] 86)) W'.heap.size (.int .i64 (x.a : Int)) (.int .i64 (x.b : Int)) (.int .i64 x.s) := ⟨by simp [go_sem], by simp [go_sem], by simp [go_sem]⟩
    have hb3 : Below W'.heap.size W' (W'.alloc (.cells #[.int .i64 (x.a : Int), .int .i64 (x.b : Int), .int .i64 x.s] 86)) := (Below.refl _ W').alloc (Nat.le_refl _) _
    generalize W'.alloc (.cells #[.int .i64 (x.a : Int), .int .i64 (x.b : Int), .int .i64 x.s] 86) = W3 at *
    revert hT3 hb3
    generalize hz : W'.heap.size = Bx
    intro hT3 hb3
    exact hK Bx _ (by rw [hz]; exact hb3) ⟨hT3, by omega⟩
  case body =>
    rintro l2 pre C x Bx W' hzW hC ⟨⟨v, hcv, hone, hrow⟩, hb⟩ ⟨hX, hne⟩ hpre
    obtain ⟨o0, oz⟩ := id hone
    obtain ⟨x0, x1, x2⟩ := id hX
    have lo := hone.lt
    have sB := hb.size
    have hpl := hpre.length_le
    simp only [List.length_append, List.length_singleton] at hpl
    have HR := Lib.hid hrow
    have hge := fun j hj => own_block_ge hrow j hj
    have n0 : some w.heap.size ≠ v.ownBlock := fun a => by have := hge _ a.symm; omega
    have HC := Lib.hid hcv
    have HG := Lib.hid hge
    obtain ⟨va, vn, vc, rfl⟩ := own_shape hrow
    have q0 := akeep (o := .cells #[.int .i64 (x.a : Int), .int .i64 (x.b : Int), .int .i64 x.s] 86) o0
    have qz := afkeep (o := .cells #[.int .i64 (x.a : Int), .int .i64 (x.b : Int), .int .i64 x.s] 86) oz lo
    clear hrow hge hcv
    gi_wp2_with (gi_at_builtin; refine wpListIn_append_own_at _ rfl _ _ 51 rfl (w.heap.size + 1) 86 i0 (.agg #[.int .i64 0, .int .i64 0, .int .i64 0]) 3 24 Tryd.underlying51 hi hz0 hz1 hz2 rfl (by decide) _ _ _ rfl (HR.out.alloc _) ⟨W'.heap.size, 0, none⟩ 1 1 [.int .i64 (x.a : Int), .int .i64 (x.b : Int), .int .i64 x.s] rfl rfl (World.news_of_block (cs := #[.int .i64 (x.a : Int), .int .i64 (x.b : Int), .int .i64 x.s]) (t := 86) (fr := (0, 0)) (heap_alloc_new W' _)) (by simp [Value.oneCell']) (maxLen_of (by omega)) (by omega) (by simp; omega) ?_; intro v' w5 hown5 hgrow5 _ hat; obtain ⟨ua, un, uc, rfl⟩ := own_shape hown5; have o5 := gkeep hgrow5 q0 n0; have z5 := gfkeep hgrow5 qz (by simp; omega) n0)
    refine ⟨fun k => (Value.slice ua un uc).ownBlock = some k, ⟨⟨_, fun k => Iff.rfl, ⟨World.cell?_setCell_same _ _ _ o5, by rw [World.frozen?_setCell]; exact z5⟩, ?_⟩,
      ((hb.alloc (by omega) _).grown hgrow5 (by simp; omega) (fun j hj => by have := HG.out j hj; omega)).setCell (p := ⟨w.heap.size, 0, none⟩) (by dsimp only; omega) _⟩, fun k h => ⟨?_, own_block_lt hown5 k h⟩,
      ((Spare.of ((Below.refl _ W').alloc (Nat.le_refl _) _)).trans (Spare.grown hgrow5 (fun j hj => ⟨fun hn => by have := hN _ hn; have := HG.out j hj; omega, .inr ((HC.out j).2 hj)⟩))).trans (Spare.set (fun hn => by have := hN _ hn; dsimp only at this; omega) (.inl (by dsimp only; omega)) _)⟩
    · unfold BRow
      rw [bC_snoc, List.length_append]
      exact ownsRow_setCell_below hown5 (by dsimp only; omega) _
    · rcases hat with h1 | h1
      · exact .inl ((HC.out k).2 (h1.symm.trans h))
      · have h2 := h1.symm.trans h
        simp at h2
        exact .inr (by omega)
  case done =>
    rintro C W3 hzW ⟨⟨v, hcv, hone, hrow⟩, hb⟩ nD hK
    obtain ⟨o0, oz⟩ := id hone
    have HR := Lib.hid hrow
    have HC := Lib.hid hcv
    clear hrow hcv
    gi_wp2
    refine ⟨by simp, .inl ⟨_, _, rfl, run_takeDeferred hK, ?_⟩⟩
    refine ⟨_, results_tmp rfl _ _ _, ⟨_, rfl, ?_⟩, hb.trans ((Below.refl _ W3).grown (grownBy_putObj' W3 _ _) hb.size (fun k e => by cases e; omega))⟩
    exact OwnC.mono (BRow.own (row_of_blocks HR.out fun j hj => World.putObj_heap_other (by rintro rfl; exact nD ((HC.out _).2 hj)))) (by omega) (Nat.le_refl _)
theorem collect_any (gf : Nat) (lb : Array Value) (N : Nat → Prop) (xs : List Bd) (w : World) (hg : Gives Tryd.prog gf lb encB N xs w) (eg : ∀ args w, (callFunc gf args).run Tryd.prog w = .ok (.enter gf args) w) (hx : xs.length ≤ 1000) (hN : ∀ k, N k → k < w.heap.size) :
    Calls Tryd.prog 56 #[.func (.func gf) #[] lb] w fun e w' => (∃ v', e = .returned v' ∧ OwnB w' w.heap.size w'.heap.size v' xs) ∧ Below w.heap.size w w' := by
  go_enter Tryd.func56, Tryd.ntmps56
  go_wp2_with fail
  refine (appendSeq_any gf lb N xs w hg eg hx hN).mono ?_
  rintro e w1 ⟨⟨v', rfl, ho⟩, hb⟩
  have HO := Lib.hid ho
  clear ho
  go_wp2_with fail
  go_ret
  exact ⟨⟨_, rfl, HO.out⟩, hb⟩
end Go.Proofs.YtnofbeeihdgmdaaDoor
