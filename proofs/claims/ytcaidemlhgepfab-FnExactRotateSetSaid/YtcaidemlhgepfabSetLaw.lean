/-
  What the laws on tile sets share: the model's ValidSet, and how the law's own variables are kept over calls that make new memory alone. Conditions: each theorem's own.
-/
import Derived.Test.YtcaidemlhgepfabIOk
import Derived.Test.YtcaidemlhgepfabEq
namespace Go.Proofs.Ytcaidemlhgepfab
open Go.RowKit Go.ChangeShapes Go.WideShapes

theorem SetIn.shape {w : World} {vg vt : Value} {S : Set_} (h : SetIn w vg vt S) : ∃ a m c b n d, vg = .slice a m c ∧ vt = .slice b n d := by
  obtain ⟨a, c, h1, -⟩ := h.g
  obtain ⟨sv, ⟨b, d, h2, -⟩, -⟩ := h.t
  exact ⟨a, _, c, b, _, d, h1, h2⟩

theorem At.new (w : World) (vg vt : Value) (t : TypeId) : At (w.alloc (.cells #[vg, vt] t)) w.heap.size vg vt := ⟨by simp [go_sem], by simp [go_sem]⟩

theorem Below.trodAll {H : Type} {enc : TypeId × Value → H} {P : Program} {W W' : World} (hl : laidOutB P = true) : ∀ {ts : List TypeId} {vs : List Value} {ds : List (DataW H)} {ps : List MemPlace},
    (ts.all fun t => P.readableRec t && decide (t < P.types.size)) = true → DataW.TrodAll enc P W 0 (fun _ => true) true ts vs ds ps → Below W.heap.size W W' → (∀ x ∈ ps, x.block < W.heap.size) →
    DataW.TrodAll enc P W' 0 (fun b => decide (b < W.heap.size)) true ts vs ds ps
  | [], vs, ds, ps, _, h, _, _ => by
    obtain ⟨rfl, rfl, rfl⟩ := trodAll_nil h
    rfl
  | t :: ts, vs, ds, ps, hr, h, hb, hlt => by
    obtain ⟨v, vs', d, ds', p, q, rfl, rfl, rfl, h1, h2⟩ := trodAll_cons h
    simp only [List.all_cons, Bool.and_eq_true, decide_eq_true_eq] at hr
    exact trodAll_cons_mk (Below.trod hl hr.1.1 hr.1.2 h1 hb fun x hx => hlt x (List.mem_append_left _ hx)) (Below.trodAll hl hr.2 h2 hb fun x hx => hlt x (List.mem_append_right _ hx))

/-- The row's last step, where the arguments lead to memory. -/
theorem post_mem {H : Type} {enc : TypeId × Value → H} {P : Program} {f : Func} {s : ChangeSpec} {W W' : World} {args : Array Value} {v : Value} {ds : List (DataW H)} {before pa : List MemPlace}
    (hl : laidOutB P = true) (hr : (f.params.toList.all fun t => P.readableRec t && decide (t < P.types.size)) = true)
    (hW : DataW.Whole enc P f.params.toList s.vars false W args.toList ds [] before)
    (hres : ∀ (b : Nat) (sp : Nat → Bool) (hd : Bool), DataW.TrodAll enc P W' b sp hd f.resultTypes.toList (v.resultList f.resultTypes.size) (s.fn H (ds ++ [])).results [])
    (hA : DataW.TrodAll enc P W 0 (fun _ => true) true f.params.toList args.toList ds pa) (hargs : (s.fn H (ds ++ [])).args = ds)
    (hvars : DataW.TrodVars enc P W' (fun b => decide (b < W.heap.size)) s.vars (s.fn H (ds ++ [])).vars [])
    (hps : before = pa) (hb : Below W.heap.size W W') : s.post enc P f false true false false W args v W' := by
  subst hps
  have hin : ∀ p, p ∈ before → p ∈ before ∧ (p ∈ ([] : List MemPlace) ∨ p ∈ before ∨ p ∈ ([] : List MemPlace)) := fun p hp => ⟨hp, Or.inr (Or.inl hp)⟩
  have hA' := Below.trodAll (W' := W') hl hr hA hb fun x hx => hW.lt x hx
  rw [← hargs] at hA'
  exact ⟨ds, [], before, [], before, [], hW, hres _ _ _, hA', hvars, World.keptBut_mono hin (hb.frame (· ∈ before)), fun h => nomatch h⟩

end Go.Proofs.Ytcaidemlhgepfab
