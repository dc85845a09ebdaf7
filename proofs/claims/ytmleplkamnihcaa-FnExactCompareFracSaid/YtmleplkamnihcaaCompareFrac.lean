/-
  For all fractions a and b, CompareFrac of the program answers as the model's; the law FnExactCompareFrac returns true and leaves its arguments as they were. Conditions: none.
-/
import Derived.Test.YtmleplkamnihcaaLaw
namespace Go.Proofs.Ytmleplkamnihcaa
open Go.RowKit

set_option maxHeartbeats 1000000 in
theorem walk_FnExactCompareFrac (n d p q : Int) (_w0 : (Lit.int .i64 n).wf = true) (_w1 : (Lit.int .i64 d).wf = true) (_w2 : (Lit.int .i64 p).wf = true) (_w3 : (Lit.int .i64 q).wf = true) (w : World) :
    Calls Try.prog 12 #[.agg #[.int .i64 n, .int .i64 d], .agg #[.int .i64 p, .int .i64 q]] w fun e w' => e = .returned (.bool true) ∧ Below w.heap.size w w' := by
  go_enter Try.func12, Try.ntmps12
  go_upto_region 1 with fail
  go_cut [5, 6] (fun s5 s6 wx => s5 = .int .i64 (cmp1 n d p q) ∧ s6 = .int .i64 (cmp2 n d p q) ∧ Two wx w.heap.size (.int .i64 n) (.int .i64 d) ∧ Two wx (w.heap.size + 1) (.int .i64 p) (.int .i64 q) ∧ Below w.heap.size w wx ∧ w.heap.size + 2 ≤ wx.heap.size)
  case first =>
    go_region_held3 (fun w' => w'.cell? ⟨w.heap.size, 0, none⟩ = some (.int .i64 n) ∧ w'.cell? ⟨w.heap.size, 1, none⟩ = some (.int .i64 d) ∧ w'.cell? ⟨w.heap.size + 1, 0, none⟩ = some (.int .i64 p) ∧ w'.cell? ⟨w.heap.size + 1, 1, none⟩ = some (.int .i64 q)) ((((try go_split_ands); (try dsimp only); (repeat' apply And.intro)) <;> (repeat (first | with_reducible assumption | ((with_reducible refine cnew0 ?_); simp; done) | ((with_reducible refine cnew1 ?_); simp; done) | (with_reducible refine akeep ?_) | (with_reducible refine dkeep ?_) | ((with_reducible refine skeep ?_ ?_); rotate_left; (first | ((try dsimp only); omega) | (simp; done) | (simp; omega))) | (with_reducible refine bkeep hb3 ?_)))))
      (first
        | (go_at_call_of 24 (Value.agg #[Value.int IntKind.i64 n, Value.int IntKind.i64 d]); refine (toFrac_any n d _).mono ?_; rintro e w1 ⟨rfl, rfl⟩)
        | (go_at_call_of 24 (Value.agg #[Value.int IntKind.i64 p, Value.int IntKind.i64 q]); refine (toFrac_any p q _).mono ?_; rintro e w2 ⟨rfl, rfl⟩)
        | (go_at_call 35; refine (specCompareFrac_any n d p q _).mono ?_; rintro e w3 ⟨rfl, hb3⟩; obtain ⟨hc3, hf3, -⟩ := bfull hb3))
    all_goals (go_wp2_with fail; go_meet)
    all_goals
      have s3 := hb3.size
      (try simp at s3)
      refine ⟨rfl, rfl, ?_, ?_, ?_, ?_⟩
      · (repeat (first | with_reducible assumption | (with_reducible refine Two.set_ (x := .int .i64 0) (y := .int .i64 0) ?_ _ _) | ((with_reducible refine Two.new _ _ _ _ ?_); simp; done) | (with_reducible refine Two.alloc ?_ _) | (with_reducible refine Two.drew ?_) | (with_reducible refine Two.drewN ?_ _) | ((with_reducible refine Two.far ?_ ?_ _); rotate_left; (first | ((try dsimp only); omega) | (simp; done) | (simp; omega))) | (with_reducible refine Two.below ?_ hb3)))
      · (repeat (first | with_reducible assumption | (with_reducible refine Two.set_ (x := .int .i64 0) (y := .int .i64 0) ?_ _ _) | ((with_reducible refine Two.new _ _ _ _ ?_); simp; done) | (with_reducible refine Two.alloc ?_ _) | (with_reducible refine Two.drew ?_) | (with_reducible refine Two.drewN ?_ _) | ((with_reducible refine Two.far ?_ ?_ _); rotate_left; (first | ((try dsimp only); omega) | (simp; done) | (simp; omega))) | (with_reducible refine Two.below ?_ hb3)))
      · (repeat (first | exact Below.refl _ _ | refine Below.setCell ?_ (by first | (simp; done) | (simp; omega) | omega) _ | refine belowN ?_ _ | refine Below.drew ?_ | refine Below.alloc ?_ (by first | (simp; done) | (simp; omega) | omega) _ | refine Below.trans ?_ (Below.mono (by assumption) (by first | (simp; done) | (simp; omega) | omega))))
      · omega
  case rest =>
    obtain ⟨rfl, rfl, ⟨a0, a1, -, -⟩, ⟨b0, b1, -, -⟩, hbx, hsx⟩ := hcut
    go_upto_region 2 with fail
    go_cut [7, 8] (fun s7 s8 wx => s7 = .int .i64 (cmp1 n d p q) ∧ s8 = .int .i64 (cmp2 n d p q) ∧ Below w.heap.size w wx)
    case first =>
      go_region_held3 (fun w' => w'.cell? ⟨w.heap.size, 0, none⟩ = some (.int .i64 n) ∧ w'.cell? ⟨w.heap.size, 1, none⟩ = some (.int .i64 d) ∧ w'.cell? ⟨w.heap.size + 1, 0, none⟩ = some (.int .i64 p) ∧ w'.cell? ⟨w.heap.size + 1, 1, none⟩ = some (.int .i64 q)) ((((try go_split_ands); (try dsimp only); (repeat' apply And.intro)) <;> (repeat (first | with_reducible assumption | ((with_reducible refine cnew0 ?_); simp; done) | ((with_reducible refine cnew1 ?_); simp; done) | (with_reducible refine akeep ?_) | (with_reducible refine dkeep ?_) | ((with_reducible refine skeep ?_ ?_); rotate_left; (first | ((try dsimp only); omega) | (simp; done) | (simp; omega))) | (with_reducible refine bkeep hb3 ?_)))))
        (first
          | (go_at_call_of 24 (Value.agg #[Value.int IntKind.i64 n, Value.int IntKind.i64 d]); refine (toFrac_any n d _).mono ?_; rintro e w1 ⟨rfl, rfl⟩)
          | (go_at_call_of 24 (Value.agg #[Value.int IntKind.i64 p, Value.int IntKind.i64 q]); refine (toFrac_any p q _).mono ?_; rintro e w2 ⟨rfl, rfl⟩)
          | (go_at_call 36; refine (implCompareFrac_any n d p q _).mono ?_; rintro e w3 ⟨rfl, hb3⟩; obtain ⟨hc3, hf3, -⟩ := bfull hb3))
      all_goals (go_wp2_with fail; go_meet)
      all_goals
        have s3 := hb3.size
        (try simp at s3)
        exact ⟨rfl, rfl, by (repeat (first | exact Below.refl _ _ | refine Below.setCell ?_ (by first | (simp; done) | (simp; omega) | omega) _ | refine belowN ?_ _ | refine Below.drew ?_ | refine Below.alloc ?_ (by first | (simp; done) | (simp; omega) | omega) _ | refine Below.trans ?_ (Below.mono (by assumption) (by first | (simp; done) | (simp; omega) | omega))))⟩
    case rest =>
      obtain ⟨rfl, rfl, hby⟩ := hcut
      go_wp2
      go_ret
      exact ⟨rfl, hby⟩

namespace fnExactCompareFrac
open Go.ChangeShapes Go.WideShapes Go.ChangeAt Go.RowKit Go.Joins
open Go.ChangeMaps (open_string shut_string)
theorem own : ownKnob Try.prog.godebug = none := by kernel_rfl
theorem cells_0 : Try.prog.cellsOf 34 = 2 := by kernel_rfl
theorem cells_1 : Try.prog.cellsOf 34 = 2 := by kernel_rfl
set_option linter.unusedVariables false in
theorem contract (H : Type) (enc : TypeId × Value → H) (W : World) (base : Nat) (args : Array Value) (ds gs : List (DataW H)) (before : List MemPlace)
    (hval : ∀ (j : Nat) t v, Try.f12.params[j]? = some t → args[j]? = some v → Value.okWide Try.prog W .any base t v)
    (hW : DataW.Whole enc Try.prog Try.f12.params.toList Rows.fnExactCompareFracSpec.vars false W args.toList ds gs before) :
    Calls Try.prog 12 args W fun e W' => ∃ v, e = .returned v ∧ Rows.fnExactCompareFracSpec.post enc Try.prog Try.f12 false true false false W args v W' := by
  have hW' := hW
  obtain ⟨p, q, hA0, hV, rfl, hfz, hnd⟩ := hW
  have hA : DataW.TrodAll enc Try.prog W 0 (fun _ => true) true Try.f12.params.toList args.toList ds p := hA0
  rw [Try.params12] at hA hval
  obtain ⟨v0, vs0, d0, ds0, p0, q0, ha0, rfl, rfl, h0, r0⟩ := trodAll_cons hA
  obtain ⟨v1, vs1, d1, ds1, p1, q1, ha1, rfl, rfl, h1, r1⟩ := trodAll_cons r0
  obtain ⟨rfl, rfl, rfl⟩ := trodAll_nil r1
  obtain rfl : args = #[v0, v1] := by cases args; simp_all
  obtain ⟨rfl, rfl⟩ := trodVars_none hV
  obtain ⟨c0, e0, y0, z0, m0, rfl, rfl, rfl, hy0, hz0⟩ := open_agg2 Try.underlying34 (by kernel_rfl) cells_0 (hval 0 34 v0 rfl rfl) h0
  obtain ⟨a0, f0, rfl, w0a⟩ := DataW.trod_int Try.underlying2 hy0
  obtain ⟨b0, g0, rfl, w0b⟩ := DataW.trod_int Try.underlying2 hz0
  simp at f0 g0
  subst f0 g0
  obtain ⟨c1, e1, y1, z1, m1, rfl, rfl, rfl, hy1, hz1⟩ := open_agg2 Try.underlying34 (by kernel_rfl) cells_1 (hval 1 34 v1 rfl rfl) h1
  obtain ⟨a1, f1, rfl, w1a⟩ := DataW.trod_int Try.underlying2 hy1
  obtain ⟨b1, g1, rfl, w1b⟩ := DataW.trod_int Try.underlying2 hz1
  simp at f1 g1
  subst f1 g1
  clear hA0
  simp only [List.append_nil] at hW'
  have sr0 : ∀ (W' : World) (sp : Nat → Bool), DataW.Trod enc Try.prog W' 0 sp true 34 (.agg #[.int .i64 a0, .int .i64 b0]) (.agg [.lit (.int .i64 a0), .lit (.int .i64 b0)]) [] := fun W' sp =>
    shut_agg2 (y0 := (.lit (.int .i64 a0), [])) (y1 := (.lit (.int .i64 b0), [])) Try.underlying34 (by kernel_rfl) cells_0 ⟨1, by simp [DataW.trod, Try.underlying2, w0a]⟩ ⟨1, by simp [DataW.trod, Try.underlying2, w0b]⟩
  have sr1 : ∀ (W' : World) (sp : Nat → Bool), DataW.Trod enc Try.prog W' 0 sp true 34 (.agg #[.int .i64 a1, .int .i64 b1]) (.agg [.lit (.int .i64 a1), .lit (.int .i64 b1)]) [] := fun W' sp =>
    shut_agg2 (y0 := (.lit (.int .i64 a1), [])) (y1 := (.lit (.int .i64 b1), [])) Try.underlying34 (by kernel_rfl) cells_1 ⟨1, by simp [DataW.trod, Try.underlying2, w1a]⟩ ⟨1, by simp [DataW.trod, Try.underlying2, w1b]⟩
  refine (walk_FnExactCompareFrac a0 b0 a1 b1 w0a w0b w1a w1b W).mono fun e W' ⟨he, hg⟩ => ?_
  subst he
  exact ⟨_, rfl, post_law (pa := []) (pv := []) hW' (fun _ _ _ => (trodAll_cons_mk (shut_bool Try.underlying4 _) trodAll_mk0)) (fun sp _ => (trodAll_cons_mk (sr0 _ sp) (trodAll_cons_mk (sr1 _ sp) trodAll_mk0))) (fun _ _ => rfl) rfl hg⟩
set_option maxRecDepth 100000 in
theorem lifted (os : Os) (started : os.Started) (H : Type) (enc : TypeId × Value → H) :
    ReturnsInHanded {} Try.checked os 12 .any (Rows.fnExactCompareFracSpec.pre6 enc Try.prog Try.f12 Rows.fnExactCompareFracRow.domain false) (Rows.fnExactCompareFracSpec.post enc Try.prog Try.f12 false true false false) := by
  refine returnsInHanded_of_change (C := Try.checked) own started (by kernel_rfl) Try.func12
    (ChangeSpec.witness6 (enc := enc) (C := Try.checked) false ⟨#[], #[.agg #[.int .i64 0, .int .i64 0], .agg #[.int .i64 0, .int .i64 0]], []⟩ 8 (by kernel_rfl) (by kernel_rfl) (by kernel_rfl) (by kernel_rfl)) ?_
  intro W base args ds gs before hval hW _ _
  exact contract H enc W base args ds gs before hval hW
end fnExactCompareFrac
theorem fnExactCompareFrac_holds : Rows.FnExactCompareFracSaid :=
  OpenClaim.holds_of_wide 12 Try.f12 rfl rfl rfl rfl rfl rfl rfl ⟨rfl, rfl, rfl, rfl, rfl⟩ rfl rfl rfl rfl rfl (by kernel_rfl) Try.func12 (by kernel_rfl)
    (of_decide_eq_true (by kernel_rfl)) (by unfold Func.isWrapper; first | (rw [if_pos (by decide +kernel)]; kernel_rfl) | (rw [if_neg (by decide +kernel)]; exact ⟨rfl, rfl⟩))
    (fun os started H enc _ => fnExactCompareFrac.lifted os started H enc)
end Go.Proofs.Ytmleplkamnihcaa
