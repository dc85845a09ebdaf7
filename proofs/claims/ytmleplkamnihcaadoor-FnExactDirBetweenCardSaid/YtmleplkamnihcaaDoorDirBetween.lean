/-
  For all pairs of points, DirBetween of the program answers as the model's; the law FnExactDirBetween returns true and leaves its arguments as they were. Condition: the listed table of steps starts as the program's text lays it (the card ties it).
-/
import Derived.Test.YtmleplkamnihcaaDoorDirB
namespace Go.Proofs.YtmleplkamnihcaaDoor
open Go.RowKit

theorem steps_of2 {W : World} {rest : List (String × DataW Unit)} (hL : laidMet Tryd.prog (("loop.example/g01081/impl.dirSteps", Rows.laid_loop_example_g01081_impl_dirSteps) :: rest) W) : Steps W := by
  have h : ∀ {i : Nat} {a b : Int}, ([(0, 1), (1, 0), (0, -1), (-1, 0)] : List (Int × Int))[i]? = some (a, b) → W.cell? ⟨2, i * 2, none⟩ = some (.int .i64 a) ∧ W.cell? ⟨2, i * 2 + 1, none⟩ = some (.int .i64 b) := fun hi =>
    pairs_of_head (ks := [(0, 1), (1, 0), (0, -1), (-1, 0)]) (rest := rest) (k := 2) (by kernel_rfl) (by kernel_rfl) Tryd.underlying73 Tryd.underlying29 (by kernel_rfl) rfl rfl rfl rfl Tryd.underlying2 (by kernel_rfl) hL hi
  exact ⟨(h (i := 0) rfl).1, (h (i := 0) rfl).2, (h (i := 1) rfl).1, (h (i := 1) rfl).2, (h (i := 2) rfl).1, (h (i := 2) rfl).2, (h (i := 3) rfl).1, (h (i := 3) rfl).2⟩

set_option maxHeartbeats 1000000 in
theorem walk_FnExactDirBetween (n d p q : Int) (_w0 : (Lit.int .i64 n).wf = true) (_w1 : (Lit.int .i64 d).wf = true) (_w2 : (Lit.int .i64 p).wf = true) (_w3 : (Lit.int .i64 q).wf = true) (w : World) (hL : laidMetH Tryd.prog Rows.fnExactDirBetweenRow.laid w) :
    Calls Tryd.prog 8 #[.agg #[.int .i64 n, .int .i64 d], .agg #[.int .i64 p, .int .i64 q]] w fun e w' => e = .returned (.bool true) ∧ Below w.heap.size w w' := by
  have hS : Steps w := steps_of2 (rest := []) hL
  have hlt := hS.lt
  have HS := Lib.hid hS
  clear hL hS
  go_enter Tryd.func8, Tryd.ntmps8
  go_upto_region 1 with fail
  go_cut [5, 6] (fun s5 s6 wx => s5 = .int .i64 (dir1 n d p q) ∧ s6 = .int .i64 (dir2 n d p q) ∧ Two wx w.heap.size (.int .i64 n) (.int .i64 d) ∧ Two wx (w.heap.size + 1) (.int .i64 p) (.int .i64 q) ∧ Below w.heap.size w wx ∧ w.heap.size + 2 ≤ wx.heap.size)
  case first =>
    go_region_held3 (fun w' => w'.cell? ⟨w.heap.size, 0, none⟩ = some (.int .i64 n) ∧ w'.cell? ⟨w.heap.size, 1, none⟩ = some (.int .i64 d) ∧ w'.cell? ⟨w.heap.size + 1, 0, none⟩ = some (.int .i64 p) ∧ w'.cell? ⟨w.heap.size + 1, 1, none⟩ = some (.int .i64 q)) ((((try go_split_ands); (try dsimp only); (repeat' apply And.intro)) <;> (repeat (first | with_reducible assumption | ((with_reducible refine cnew0 ?_); simp; done) | ((with_reducible refine cnew1 ?_); simp; done) | (with_reducible refine akeep ?_) | (with_reducible refine dkeep ?_) | ((with_reducible refine skeep ?_ ?_); rotate_left; (first | ((try dsimp only); omega) | (simp; done) | (simp; omega))) | (with_reducible refine bkeep hb3 ?_)))))
      (first
        | (go_at_call_of 22 (Value.agg #[Value.int IntKind.i64 n, Value.int IntKind.i64 d]); refine (toPoint_any n d _).mono ?_; rintro e w1 ⟨rfl, rfl⟩)
        | (go_at_call_of 22 (Value.agg #[Value.int IntKind.i64 p, Value.int IntKind.i64 q]); refine (toPoint_any p q _).mono ?_; rintro e w2 ⟨rfl, rfl⟩)
        | (go_at_call 25; refine (specDir_any n d p q _).mono ?_; rintro e w3 ⟨rfl, hb3⟩; obtain ⟨hc3, hf3, -⟩ := bfull hb3))
    all_goals (go_wp2_with fail; go_meet)
    all_goals
      have s3 := hb3.size
      (try simp at s3)
      refine ⟨rfl, rfl, ?_, ?_, ?_, ?_⟩
      · (repeat (first | with_reducible assumption | (with_reducible refine Two.set_ (x := .int .i64 0) (y := .int .i64 0) ?_ _ _) | ((with_reducible refine Two.new _ _ _ _ ?_); simp; done) | (with_reducible refine Two.alloc ?_ _) | (with_reducible refine Two.drew ?_) | (with_reducible refine Two.drewN ?_ _) | ((with_reducible refine Two.far ?_ ?_ _); rotate_left; (first | ((try dsimp only); omega) | (simp; done) | (simp; omega))) | (with_reducible refine Two.below ?_ hb3)))
      · (repeat (first | with_reducible assumption | (with_reducible refine Two.set_ (x := .int .i64 0) (y := .int .i64 0) ?_ _ _) | ((with_reducible refine Two.new _ _ _ _ ?_); simp; done) | (with_reducible refine Two.alloc ?_ _) | (with_reducible refine Two.drew ?_) | (with_reducible refine Two.drewN ?_ _) | ((with_reducible refine Two.far ?_ ?_ _); rotate_left; (first | ((try dsimp only); omega) | (simp; done) | (simp; omega))) | (with_reducible refine Two.below ?_ hb3)))
      · (repeat (first | exact Below.refl _ _ | refine Below.setCell ?_ (by first | (simp; done) | (simp; omega) | omega) _ | refine belowN ?_ _ | refine Below.drew ?_ | refine Below.alloc ?_ (by first | (simp; done) | (simp; omega) | omega) _ | refine Below.trans ?_ (Below.mono (by assumption) (by first | (simp; done) | (simp; omega) | omega))))
      · omega
  case rest =>
    obtain ⟨rfl, rfl, ⟨a0, a1, -, -⟩, ⟨b0, b1, -, -⟩, hbx, hsx⟩ := hcut
    go_upto_region 2 with fail
    go_cut [7, 8] (fun s7 s8 wx => s7 = .int .i64 (dir1 n d p q) ∧ s8 = .int .i64 (dir2 n d p q) ∧ Below w.heap.size w wx)
    case first =>
      go_region_held3 (fun w' => w'.cell? ⟨w.heap.size, 0, none⟩ = some (.int .i64 n) ∧ w'.cell? ⟨w.heap.size, 1, none⟩ = some (.int .i64 d) ∧ w'.cell? ⟨w.heap.size + 1, 0, none⟩ = some (.int .i64 p) ∧ w'.cell? ⟨w.heap.size + 1, 1, none⟩ = some (.int .i64 q)) ((((try go_split_ands); (try dsimp only); (repeat' apply And.intro)) <;> (repeat (first | with_reducible assumption | ((with_reducible refine cnew0 ?_); simp; done) | ((with_reducible refine cnew1 ?_); simp; done) | (with_reducible refine akeep ?_) | (with_reducible refine dkeep ?_) | ((with_reducible refine skeep ?_ ?_); rotate_left; (first | ((try dsimp only); omega) | (simp; done) | (simp; omega))) | (with_reducible refine bkeep hb3 ?_)))))
        (first
          | (go_at_call_of 22 (Value.agg #[Value.int IntKind.i64 n, Value.int IntKind.i64 d]); refine (toPoint_any n d _).mono ?_; rintro e w1 ⟨rfl, rfl⟩)
          | (go_at_call_of 22 (Value.agg #[Value.int IntKind.i64 p, Value.int IntKind.i64 q]); refine (toPoint_any p q _).mono ?_; rintro e w2 ⟨rfl, rfl⟩)
          | (go_at_call 26; refine (implDir_any n d p q _ (HS.out.below (B := w.heap.size) (by (repeat (first | exact Below.refl _ _ | refine Below.setCell ?_ (by first | (simp; done) | (simp; omega) | omega) _ | refine belowN ?_ _ | refine Below.drew ?_ | refine Below.alloc ?_ (by first | (simp; done) | (simp; omega) | omega) _ | refine Below.trans ?_ (Below.mono (by assumption) (by first | (simp; done) | (simp; omega) | omega))))) hlt)).mono ?_; rintro e w3 ⟨rfl, hb3⟩; obtain ⟨hc3, hf3, -⟩ := bfull hb3))
      all_goals (go_wp2_with fail; go_meet)
      all_goals
        have s3 := hb3.size
        (try simp at s3)
        exact ⟨rfl, rfl, by (repeat (first | exact Below.refl _ _ | refine Below.setCell ?_ (by first | (simp; done) | (simp; omega) | omega) _ | refine belowN ?_ _ | refine Below.drew ?_ | refine Below.alloc ?_ (by first | (simp; done) | (simp; omega) | omega) _ | refine Below.trans ?_ (Below.mono (by assumption) (by first | (simp; done) | (simp; omega) | omega))))⟩
    case rest =>
      obtain ⟨rfl, rfl, hby⟩ := hcut
      go_wp2
      go_ret
      exact ⟨rfl, hby⟩

namespace fnExactDirBetween
open Go.ChangeShapes Go.WideShapes Go.ChangeAt Go.RowKit Go.Joins Go.WideElems
open Go.ChangeMaps (open_string shut_string)
theorem own : ownKnob Tryd.prog.godebug = none := by kernel_rfl
theorem laidOut : laidOutB Tryd.prog = true := by kernel_rfl
theorem rowed : varsRowed Tryd.prog Rows.fnExactDirBetweenSpec.vars = true := by kernel_rfl
theorem cells_0 : Tryd.prog.cellsOf 28 = 2 := by kernel_rfl
theorem cells_1 : Tryd.prog.cellsOf 28 = 2 := by kernel_rfl
theorem door_met (os : Os) (args : Array Value) : laidMetH Tryd.prog Rows.fnExactDirBetweenRow.laid ((World.doorLaid Tryd.prog 400 os).forCall (fun _ _ => 0) ⟨#[], args, []⟩).memory :=
  laidMetH_of_parts3 (fuel := 8) (laidMet_of_run' 8 (by kernel_rfl) (by kernel_rfl)) (by kernel_rfl) (by kernel_rfl)
set_option maxRecDepth 100000 in
set_option linter.unusedVariables false in
theorem contract (H : Type) (enc : TypeId × Value → H) (W : World) (base : Nat) (args : Array Value) (ds gs : List (DataW H)) (before : List MemPlace)
    (hval : ∀ (j : Nat) t v, Tryd.f8.params[j]? = some t → args[j]? = some v → Value.okWide Tryd.prog W .any base t v)
    (hW : DataW.Whole enc Tryd.prog Tryd.f8.params.toList Rows.fnExactDirBetweenSpec.vars false W args.toList ds gs before) (hL : laidMetH Tryd.prog Rows.fnExactDirBetweenRow.laid W) :
    Calls Tryd.prog 8 args W fun e W' => ∃ v, e = .returned v ∧ Rows.fnExactDirBetweenSpec.post enc Tryd.prog Tryd.f8 false true false false W args v W' := by
  have hW' := hW
  obtain ⟨p, q, hA0, hV, rfl, hfz, hnd⟩ := hW
  have hA : DataW.TrodAll enc Tryd.prog W 0 (fun _ => true) true Tryd.f8.params.toList args.toList ds p := hA0
  rw [Tryd.params8] at hA hval
  obtain ⟨v0, vs0, d0, ds0, p0, q0, ha0, rfl, rfl, h0, r0⟩ := trodAll_cons hA
  obtain ⟨v1, vs1, d1, ds1, p1, q1, ha1, rfl, rfl, h1, r1⟩ := trodAll_cons r0
  obtain ⟨rfl, rfl, rfl⟩ := trodAll_nil r1
  obtain rfl : args = #[v0, v1] := by cases args; simp_all
  have hV2 := hV
  obtain ⟨_, _, _, _, dv, _, rfl, -, -, -, -, -⟩ := trodVars_one hV
  obtain ⟨c0, e0, y0, z0, m0, rfl, rfl, rfl, hy0, hz0⟩ := open_agg2 Tryd.underlying28 (by kernel_rfl) cells_0 (hval 0 28 v0 rfl rfl) h0
  obtain ⟨a0, f0, rfl, w0a⟩ := DataW.trod_int Tryd.underlying2 hy0
  obtain ⟨b0, g0, rfl, w0b⟩ := DataW.trod_int Tryd.underlying2 hz0
  simp at f0 g0
  subst f0 g0
  obtain ⟨c1, e1, y1, z1, m1, rfl, rfl, rfl, hy1, hz1⟩ := open_agg2 Tryd.underlying28 (by kernel_rfl) cells_1 (hval 1 28 v1 rfl rfl) h1
  obtain ⟨a1, f1, rfl, w1a⟩ := DataW.trod_int Tryd.underlying2 hy1
  obtain ⟨b1, g1, rfl, w1b⟩ := DataW.trod_int Tryd.underlying2 hz1
  simp at f1 g1
  subst f1 g1
  clear hA0
  simp only [List.append_nil] at hW'
  have sr0 : ∀ (W' : World) (sp : Nat → Bool), DataW.Trod enc Tryd.prog W' 0 sp true 28 (.agg #[.int .i64 a0, .int .i64 b0]) (.agg [.lit (.int .i64 a0), .lit (.int .i64 b0)]) [] := fun W' sp =>
    shut_agg2 (y0 := (.lit (.int .i64 a0), [])) (y1 := (.lit (.int .i64 b0), [])) Tryd.underlying28 (by kernel_rfl) cells_0 ⟨1, by simp [DataW.trod, Tryd.underlying2, w0a]⟩ ⟨1, by simp [DataW.trod, Tryd.underlying2, w0b]⟩
  have sr1 : ∀ (W' : World) (sp : Nat → Bool), DataW.Trod enc Tryd.prog W' 0 sp true 28 (.agg #[.int .i64 a1, .int .i64 b1]) (.agg [.lit (.int .i64 a1), .lit (.int .i64 b1)]) [] := fun W' sp =>
    shut_agg2 (y0 := (.lit (.int .i64 a1), [])) (y1 := (.lit (.int .i64 b1), [])) Tryd.underlying28 (by kernel_rfl) cells_1 ⟨1, by simp [DataW.trod, Tryd.underlying2, w1a]⟩ ⟨1, by simp [DataW.trod, Tryd.underlying2, w1b]⟩
  refine (walk_FnExactDirBetween a0 b0 a1 b1 w0a w0b w1a w1b W hL).mono fun e W' ⟨he, hg⟩ => ?_
  subst he
  exact ⟨_, rfl, post_card (pa := []) (pv := q) hW' (fun _ _ _ => (trodAll_cons_mk (shut_bool Tryd.underlying4 _) trodAll_mk0)) (trodAll_cons_mk (sr0 _ _) (trodAll_cons_mk (sr1 _ _) trodAll_mk0)) (Below.trodVars laidOut hg rowed hV2) (by simp) hg⟩
set_option maxRecDepth 100000 in
theorem lifted (os : Os) (started : os.Started) (H : Type) (enc : TypeId × Value → H) :
    ReturnsInHanded {} Tryd.checked os 8 .any (fun w args => (Rows.fnExactDirBetweenSpec.pre enc Tryd.prog Tryd.f8 [] false w args ∧ laidMetH Tryd.prog Rows.fnExactDirBetweenRow.laid w) ∧ sizedMet enc Tryd.prog Tryd.f8 (OpenSpec.ofChange Rows.fnExactDirBetweenSpec) false w args)
      (Rows.fnExactDirBetweenSpec.post enc Tryd.prog Tryd.f8 false true false false) := by
  refine returnsInHanded_of_change_and (C := Tryd.checked) (X := fun w _ => laidMetH Tryd.prog Rows.fnExactDirBetweenRow.laid w) (fun _ _ _ hh h => h.of_heap hh) own started (by kernel_rfl) Tryd.func8
    (ChangeSpec.witness_shaped (enc := enc) (C := Tryd.checked) (os := os) (X := fun w _ => laidMetH Tryd.prog Rows.fnExactDirBetweenRow.laid w) false (World.doorLaid Tryd.prog 400 os) #[.agg #[.int .i64 0, .int .i64 0], .agg #[.int .i64 0, .int .i64 0]] 8 rfl (World.shaped_of_RefB (by kernel_rfl) (by kernel_rfl)) (by kernel_rfl) (by kernel_rfl) (by kernel_rfl) (door_met os _)) ?_
  intro W base args ds gs before hval hW _ _ hL _
  exact contract H enc W base args ds gs before hval hW hL
theorem said : Rows.FnExactDirBetweenSaid :=
  OpenClaim.holds_of_wide 8 Tryd.f8 rfl rfl rfl rfl rfl rfl rfl ⟨rfl, rfl, rfl, rfl, rfl⟩ rfl rfl rfl rfl rfl (by kernel_rfl) Tryd.func8 (by kernel_rfl)
    (of_decide_eq_true (by kernel_rfl)) (by unfold Func.isWrapper; first | (rw [if_pos (by decide +kernel)]; kernel_rfl) | (rw [if_neg (by decide +kernel)]; exact ⟨rfl, rfl⟩))
    (fun os started H enc _ => lifted os started H enc)
theorem plain (f : FuncId) (fn : Func) (hf : Tryd.pinned.checked.prog.funcNamed "loop.example/g01081/laws.FnExactDirBetween" = some f) (hfn : Tryd.pinned.checked.prog.funcs[f]? = some fn) :
    true = Tryd.pinned.checked.prog.looks [] ∧ ∀ (j : Nat) t, fn.params[j]? = some t → Tryd.pinned.checked.prog.wantsStandIn t = false := by
  obtain rfl : f = 8 := Option.some.inj ((show Tryd.prog.funcNamed "loop.example/g01081/laws.FnExactDirBetween" = some 8 by kernel_rfl).symm.trans hf) |>.symm
  obtain rfl : fn = Tryd.f8 := (Option.some.inj (Tryd.func8.symm.trans hfn)).symm
  refine ⟨by kernel_rfl, fun j t ht => ?_⟩
  rw [Tryd.params8] at ht
  have hm := Array.mem_of_getElem? ht
  simp at hm
  subst hm
  exact (show Tryd.prog.wantsStandIn 28 = false by kernel_rfl)
end fnExactDirBetween
theorem fnExactDirBetween_card : Rows.FnExactDirBetweenCardSaid :=
  Claim7.holds_tied_plain_at .later [] _ _ _ _ fnExactDirBetween.said (fun _ h => by cases h) (by kernel_rfl) (fun _ h => by cases h) fnExactDirBetween_row_tie rfl ⟨rfl, rfl⟩ (by kernel_rfl) rfl fnExactDirBetween.plain (by kernel_rfl)
end Go.Proofs.YtmleplkamnihcaaDoor
