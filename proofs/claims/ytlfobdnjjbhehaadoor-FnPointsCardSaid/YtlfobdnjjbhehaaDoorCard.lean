/-
  The row's last step for a row that names variables of the program: behind a call that leaves all older memory as it was they read as they did. Conditions: none.
-/
import Derived.Test.YtlfobdnjjbhehaaDoorLaid
import Derived.Test.YtlfobdnjjbhehaaDoorCards
import Derived.Test.YtlfobdnjjbhehaaDoorTie
import Derived.LaidMore
import Derived.OpenVars
import Derived.Stop.Joined
namespace Go.Proofs.YtlfobdnjjbhehaaDoor
open Go.RowKit Go.ChangeShapes Go.WideShapes

theorem post_card {H : Type} {enc : TypeId × Value → H} {P : Program} {f : Func} {s : ChangeSpec} {W W' : World} {args : Array Value} {v : Value} {ds gs : List (DataW H)} {before pa pv : List MemPlace}
    (hW : DataW.Whole enc P f.params.toList s.vars false W args.toList ds gs before)
    (hres : ∀ (b : Nat) (sp : Nat → Bool) (hd : Bool), DataW.TrodAll enc P W' b sp hd f.resultTypes.toList (v.resultList f.resultTypes.size) (s.fn H (ds ++ gs)).results [])
    (hargs : DataW.TrodAll enc P W' 0 (fun b => decide (b < W.heap.size)) true f.params.toList args.toList (s.fn H (ds ++ gs)).args pa)
    (hvars : DataW.TrodVars enc P W' (fun b => decide (b < W.heap.size)) s.vars (s.fn H (ds ++ gs)).vars pv)
    (hps : before = pa ++ pv) (hb : Below W.heap.size W W') : s.post enc P f false true false false W args v W' := by
  have hin : ∀ p, p ∈ before → p ∈ before ∧ (p ∈ ([] : List MemPlace) ∨ p ∈ pa ∨ p ∈ pv) := fun p hp => ⟨hp, Or.inr (List.mem_append.1 (hps ▸ hp))⟩
  exact ⟨ds, gs, before, [], pa, pv, hW, hres _ _ _, hargs, hvars, World.keptBut_mono hin (hb.frame (· ∈ before)), fun h => nomatch h⟩
end Go.Proofs.YtlfobdnjjbhehaaDoor
