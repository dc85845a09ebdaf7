/-
  The bonds of an assembly, and the tiles next to each other that do not fit: the program's iterators give them. Conditions: each theorem's own; they read the listed table of steps.
-/
import Derived.Test.YtnofbeeihdgmdaaDoorTch
namespace Go.Proofs.YtnofbeeihdgmdaaDoor
open Go.RowKit Go.Shelf
attribute [local go_sem] Oper.semAt_some

theorem roundIn_round {k m n : Nat} {P : Program} {l : Nat} {f : FuncId} {tmps : Array Value} {assign body : Code} {w : World} {R : Ending → World → Prop} (h : RoundIn Fence.wide m P l f tmps assign body w R) : RoundIn (Fence.wide.inRound k) n P l f tmps assign body w R :=
  ⟨h.1, fun c cs _ => h.2 c cs (room_wide _)⟩
theorem tcOf_mem {ps : List Pl} {i : Nat} {d : Int} {t : Tc} (h : t ∈ tcOf ps i d) : t.a = i ∧ t.d = d ∧ t.b < ps.length := by
  unfold tcOf at h
  split at h
  · rename_i h1
    obtain rfl := List.mem_singleton.1 h
    exact ⟨rfl, rfl, h1⟩
  · cases h
theorem tcs_mem {ps : List Pl} {n : Nat} {t : Tc} (h : t ∈ tcs ps n) : t.a < n ∧ t.b < ps.length ∧ (t.d = 0 ∨ t.d = 1) := by
  induction n with
  | zero => cases h
  | succ n ih =>
    simp only [tcs, List.mem_append] at h
    rcases h with (h | h) | h
    · have := ih h; exact ⟨by omega, this.2⟩
    · have := tcOf_mem h; exact ⟨by omega, this.2.2, .inr this.2.1⟩
    · have := tcOf_mem h; exact ⟨by omega, this.2.2, .inl this.2.1⟩
/-- Two tiles next to each other with a number: their bond's strength. -/
structure Bd where
  a : Nat
  b : Nat
  s : Int
instance : Inhabited Bd := ⟨⟨0, 0, 0⟩⟩
/-- .. as a value. -/
def encB (t : Bd) : Array Value := #[.agg #[.int .i64 (t.a : Int), .int .i64 (t.b : Int), .int .i64 t.s]]
/-- The bond of two tiles next to each other. -/
def bdZ (S : Set_) (ps : List Pl) (t : Tc) : Int := bondZ S (tlN ps t.a) t.d.toNat (tlN ps t.b) ((t.d.toNat + 2) % 4)
def bdOf (S : Set_) (ps : List Pl) (t : Tc) : List Bd := if 0 < bdZ S ps t then [⟨t.a, t.b, bdZ S ps t⟩] else []
theorem bdOf_yes {S : Set_} {ps : List Pl} {t : Tc} (h : 0 < bdZ S ps t) : bdOf S ps t = [⟨t.a, t.b, bdZ S ps t⟩] := by unfold bdOf; rw [if_pos h]
theorem bdOf_no {S : Set_} {ps : List Pl} {t : Tc} (h : ¬ 0 < bdZ S ps t) : bdOf S ps t = [] := by unfold bdOf; rw [if_neg h]
def bdsT (S : Set_) (ps : List Pl) (ts : List Tc) : List Bd := ts.flatMap (bdOf S ps)
theorem bdsT_snoc (S : Set_) (ps : List Pl) (ts : List Tc) (t : Tc) : bdsT S ps (ts ++ [t]) = bdsT S ps ts ++ bdOf S ps t := by simp [bdsT]
theorem bdsT_pre {S : Set_} {ps : List Pl} {ts us : List Tc} (h : ts <+: us) : bdsT S ps ts <+: bdsT S ps us := by
  obtain ⟨r, rfl⟩ := h
  exact ⟨bdsT S ps r, by simp [bdsT]⟩
theorem mem_of_pre {α : Type} {ts us : List α} {t : α} (h : ts ++ [t] <+: us) : t ∈ us := h.subset (by simp)

theorem touches_any (v : Value) (w : World) : Calls Tryd.prog 88 #[.agg #[v]] w fun e w' => e = .returned (.func (.func 113) #[] #[.pointer (some ⟨w.heap.size, 0, none⟩)]) ∧ w.alloc (.cells #[v] 42) = w' := by
  go_enter Tryd.func88, Tryd.ntmps88
  go_wp2
  go_ret
  exact ⟨rfl, rfl⟩
theorem bonds_any (vg vt v : Value) (w : World) : Calls Tryd.prog 55 #[.agg #[vg, vt], .agg #[v]] w fun e w' => e = .returned (.func (.func 87) #[] #[.pointer (some ⟨w.heap.size + 1, 0, none⟩), .pointer (some ⟨w.heap.size, 0, none⟩)]) ∧ (w.alloc (.cells #[vg, vt] 38)).alloc (.cells #[v] 42) = w' := by
  go_enter Tryd.func55, Tryd.ntmps55
  go_wp2
  go_ret
  exact ⟨rfl, rfl⟩

theorem At.of_block {w w1 : World} {b : Nat} {x y : Value} (h : At w b x y) (hb : w1.heap[b]? = w.heap[b]?) : At w1 b x y :=
  ⟨(World.cell?_of_block (a := ⟨b, 0, none⟩) hb).trans h.c0, (World.cell?_of_block (a := ⟨b, 1, none⟩) hb).trans h.c1⟩
theorem At1.of_block {w w1 : World} {b : Nat} {x : Value} (h : At1 w b x) (hb : w1.heap[b]? = w.heap[b]?) : At1 w1 b x :=
  ⟨(World.cell?_of_block (a := ⟨b, 0, none⟩) hb).trans h.c0⟩
theorem thr_own (b : Nat) (x y t : Value) : Own (fun (_ : Unit) W => Thr W b x y t) := fun s X Y row hs hg hrow =>
  hs.of_block (hg.block _ hs.lt fun e' => by
    obtain ⟨o, ho, hc⟩ := hrow b e'.symm
    have h0 := hs.c0
    unfold World.cell? at h0
    rw [ho] at h0
    cases o <;> simp_all [Obj.isCells])

/-- The law of the loop, where the loop's variable lies in a box of its own. -/
theorem wpIn_give_box {α : Type} {P : Program} {g : Operand} {ps : Array Tmp} {assign body : Code} {Q : Exit → Act → World → Prop} {a : Act} {w : World} {gf : Nat} {lb : Array Value} {encs : α → Array Value} {N : Nat → Prop} {xs : List α} {w0 : World} {m : Nat}
    (hg : a.eval g = .func (.func gf) #[] lb) (eg : ∀ args w, (callFunc gf args).run P w = .ok (.enter gf args) w)
    (hseq : Gives P gf lb encs N xs w0) (hb0 : Below w0.heap.size w0 w) (hn : ∀ k, N k → k < w.heap.size) (hps : ∀ x, (encs x).size = ps.size)
    (I : List α → (Nat → Prop) → World → Prop) (hI : ∀ pre C A B, I pre C A → Aside w.heap.size C A B → I pre C B) (C0 : Nat → Prop) (hC0 : ∀ k, C0 k → k < w.heap.size) (h0 : I [] C0 w)
    (T : α → Nat → World → Prop) (hT : ∀ x Bx, Own (fun (_ : Unit) W => T x Bx W)) (F : α → Nat → Act)
    (hassign : ∀ (l : Nat) (pre : List α) (C : Nat → Prop) (x : α) (W : World) (K : Act → World → Prop), I pre C W → (∀ Bx W', Below W.heap.size W W' → T x Bx W' → K (F x Bx) W') →
      assign.wpIn (Fence.wide.inRound l) 9 P (Exit.then K (fun _ _ _ => False)) { tmps := (ps.zip (encs x)).foldl (fun t (p, v) => t.setIfInBounds p v) a.tmps, defers := [] } W)
    (hbody : ∀ (l : Nat) (pre : List α) (C : Nat → Prop) (x : α) (Bx : Nat) (W : World), w.heap.size + 2 ≤ W.heap.size → (∀ k, C k → k < W.heap.size) → I pre C W → T x Bx W → pre ++ [x] <+: xs →
      body.wpIn (Fence.wide.inRound l) 9 P (fun e _ W' => e = .normal ∧ ∃ C', I (pre ++ [x]) C' W' ∧ (∀ k, C' k → (C k ∨ W.heap.size ≤ k) ∧ k < W'.heap.size) ∧ Spare N w.heap.size C W W') (F x Bx) W)
    (hdone : ∀ (C : Nat → Prop) (W : World), w.heap.size + 2 ≤ W.heap.size → I xs C W → ¬ C w.heap.size → W.heap[w.heap.size]? = some (.deferred (some [])) →
      Q .normal { a with defers := { target := .collected w.heap.size, args := #[] } :: a.defers } W) :
    (Code.rangeFunc g ps assign body).wpIn Fence.wide m P Q a w :=
  wpIn_give hg eg hseq hb0 hn hps I hI C0 hC0 h0 (fun x a' W => ∃ Bx, T x Bx W ∧ a' = F x Bx) (fun x a' s X Y row ⟨Bx, h1, h2⟩ hg hr => ⟨Bx, hT x Bx () X Y row h1 hg hr, h2⟩)
    (fun l pre C x W K hi hK => hassign l pre C x W K hi fun Bx W' hb ht => hK _ _ hb ⟨Bx, ht, rfl⟩)
    (fun l pre C x a' W hz hC hi ⟨Bx, ht, he⟩ hpre => by subst he; exact hbody l pre C x Bx W hz hC hi ht hpre) hdone

set_option maxRecDepth 100000 in
set_option maxHeartbeats 8000000 in
set_option linter.unusedSimpArgs false in
theorem bonds_gives (w0 : World) (bs ba : Nat) (vg vt v : Value) (S : Set_) (ps : List Pl) (N : Nat → Prop) (w : World) (hb0 : Below w0.heap.size w0 w) (hN : ∀ k, k < w0.heap.size → N k) (hNs : N bs) (hNa : N ba) (hNw : ∀ k, N k → k < w.heap.size)
    (hs : At w bs vg vt) (ha : At1 w ba v) (hS : SetIn w0 vg vt S) (sm : S.small) (hv : Plcs w0 v ps) (hva : Va S ps) (hT : Steps w0) :
    Gives Tryd.prog 87 #[.pointer (some ⟨ba, 0, none⟩), .pointer (some ⟨bs, 0, none⟩)] encB N (bdsT S ps (tcs ps ps.length)) w := by
  intro l J C0 W hW hC0 hJ hY hJ0
  have HV := Lib.hid hv
  have HS := Lib.hid hS
  have HVA := Lib.hid hva
  have b0W : Below w0.heap.size w0 W := hb0.trans (hW.mono hb0.size)
  have s0W := b0W.size
  have sW := hW.size
  have A0 := Lib.hid (ha.below hW)
  have S0 := Lib.hid (hs.below hW)
  have lba := A0.out.lt
  have lbs := S0.out.lt
  obtain ⟨ao, cap, rfl, hl, hm, hc⟩ := hv.open_
  unfold maxLen at hm
  have H0 := Lib.hid hc
  have h500 := hva.F.len
  clear hv hc hS hs ha
  have a0 := akeep (o := .cells #[.func (.yield l) #[] #[]] 129) A0.out.c0
  rw [← callsIn_wide (n := 9)]
  refine callsIn_of_wp_marks Tryd.func87 rfl trivial ?_ rfl
  simp only [Tryd.ntmps87, List.size_toArray, List.length_cons, List.length_nil, Nat.reduceAdd, Nat.reduceSub, Array.replicate_succ, Array.replicate_zero, List.push_toArray, List.append_toArray, List.nil_append, List.cons_append]
  gi_wp2_with (refine ⟨trivial, ?_⟩; gi_at_call 88; refine (callsIn_wide.2 (touches_any _ _)).mono ?_; rintro e w1 ⟨rfl, rfl⟩)
  obtain ⟨W2, hW2⟩ : ∃ W2, W2 = (W.alloc (.cells #[.func (.yield l) #[] #[]] 129)).alloc (.cells #[.slice ao ps.length cap] 42) := ⟨_, rfl⟩
  have z2 : W2.heap.size = W.heap.size + 2 := by rw [hW2]; simp
  have b2 : Below W.heap.size W W2 := by rw [hW2]; exact ((Below.refl _ W).alloc (Nat.le_refl _) _).alloc (by simp) _
  have Y2 : At1 W2 W.heap.size (.func (.yield l) #[] #[]) := by rw [hW2]; exact ⟨by simp [go_sem]⟩
  have X2 : At1 W2 (W.heap.size + 1) (.slice ao ps.length cap) := by rw [hW2]; exact ⟨by simp [go_sem]⟩
  have nq : ¬ C0 W.heap.size := fun h => by have := hC0 _ h; omega
  rw [← hW2]
  clear a0 hW2
  refine wpIn_give_box (xs := tcs ps ps.length) (N := N) (encs := encT) rfl (enters_of Tryd.func113 (by kernel_rfl) rfl)
    (touches_gives w0 (W.heap.size + 1) (.slice ao ps.length cap) ps N W2 (b0W.trans (b2.mono s0W)) hN X2 HV.out HVA.out.F hT) (Below.refl _ _) (fun k h => by have := hNw k h; omega) (fun _ => rfl)
    (fun pre C W' => J (bdsT S ps pre) C W' ∧ ¬ C W.heap.size ∧ At1 W' W.heap.size (.func (.yield l) #[] #[]) ∧ At W' bs vg vt ∧ At1 W' ba (.slice ao ps.length cap) ∧ Below w0.heap.size w0 W' ∧ W2.heap.size ≤ W'.heap.size)
    ?abide C0 (fun k h => by have := hC0 k h; omega) ⟨hJ _ _ _ _ hJ0 (Aside.of b2), nq, Y2, S0.out.below b2, A0.out.below b2, b0W.trans (b2.mono s0W), Nat.le_refl _⟩
    (fun x Bx W' => Thr W' Bx (.int .i64 (x.a : Int)) (.int .i64 x.d) (.int .i64 (x.b : Int))) (fun x Bx => thr_own Bx _ _ _) ?actF ?assign ?body ?done
  case abide =>
    rintro pre C A B ⟨h1, h2, h3, h4, h5, h6, h7⟩ hs
    exact ⟨hJ _ _ _ _ h1 (hs.mono (by omega)), h2, h3.of_block (hs.block _ (by omega) (.inl (by omega))), h4.of_block (hs.block _ (by omega) (.inl (by omega))), h5.of_block (hs.block _ (by omega) (.inl (by omega))),
      h6.trans (hs.below (by omega) (by omega)), Nat.le_trans h7 hs.size⟩
  case assign =>
    rintro l2 pre C x W' K hi hK
    dsimp only [encT]
    gi_wp2
    have hT3 : Thr (W'.alloc (.cells #[.int .i64 (x.a : Int), .int .i64 x.d, .int .i64 (x.b : Int)] 134)) W'.heap.size (.int .i64 (x.a : Int)) (.int .i64 x.d) (.int .i64 (x.b : Int)) := ⟨by simp [go_sem], by simp [go_sem], by simp [go_sem]⟩
    have hb3 : Below W'.heap.size W' (W'.alloc (.cells #[.int .i64 (x.a : Int), .int .i64 x.d, .int .i64 (x.b : Int)] 134)) := (Below.refl _ W').alloc (Nat.le_refl _) _
    generalize W'.alloc (.cells #[.int .i64 (x.a : Int), .int .i64 x.d, .int .i64 (x.b : Int)] 134) = W3 at *
    revert hT3 hb3
    generalize hz : W'.heap.size = Bx
    intro hT3 hb3
    exact hK Bx _ (by rw [hz]; exact hb3) hT3
  case body =>
    rintro l2 pre C x Bx W' hzW hC ⟨hJ1, nq1, hY1, hS1, hA1, hb1, hs1⟩ hX1 hpre
    obtain ⟨hma, hmb, hmd⟩ := tcs_mem (mem_of_pre hpre)
    obtain ⟨b, off, rfl, H1⟩ := H0.out (by omega)
    obtain ⟨m, hme⟩ : ∃ m : Nat, x.d = (m : Int) := ⟨x.d.toNat, by omega⟩
    have hm4 : m < 4 := by omega
    obtain ⟨hta, htal⟩ := HVA.out.tl hma
    obtain ⟨htb, htbl⟩ := HVA.out.tl hmb
    have ca := cell_below hb1 (H1 x.a hma).2.2
    have cb := cell_below hb1 (H1 x.b hmb).2.2
    rw [hta] at ca
    rw [htb] at cb
    rw [hme] at hX1
    obtain ⟨x0, x1, x2⟩ := id hX1
    obtain ⟨g0, g1⟩ := id hS1
    obtain ⟨e0⟩ := id hA1
    obtain ⟨y0⟩ := id hY1
    have lX := hX1.lt
    have lY := hY1.lt
    have lS := hS1.lt
    have hia : (x.a : Int) < ps.length := by omega
    have hib : (x.b : Int) < ps.length := by omega
    have s01 := hb1.size
    obtain ⟨z, hz⟩ : ∃ z, bondZ S (tlN ps x.a) m (tlN ps x.b) ((m + 2) % 4) = z := ⟨_, rfl⟩
    have hbz : bdZ S ps x = z := by unfold bdZ; rw [hme, Int.toNat_natCast]; exact hz
    have HZ := Lib.hid hz
    have HX := Lib.hid hX1
    have HYB := Lib.hid hY1
    have HSB := Lib.hid hS1
    have HAB := Lib.hid hA1
    clear hta htb hme hz hX1 hY1 hS1 hA1 H1 hmd
    gi_wp2
    refine wpIn_region_round (S := (fun w' => w'.cell? ⟨bs, 0, none⟩ = some vg ∧ w'.cell? ⟨bs, 1, none⟩ = some vt ∧ w'.cell? ⟨ba, 0, none⟩ = some (.slice (some ⟨b, off, none⟩) ps.length cap) ∧ w'.cell? ⟨Bx, 0, none⟩ = some (.int .i64 (x.a : Int)) ∧ w'.cell? ⟨Bx, 1, none⟩ = some (.int .i64 (m : Int)) ∧ w'.cell? ⟨Bx, 2, none⟩ = some (.int .i64 (x.b : Int)) ∧ w'.cell? ⟨b, off + x.a * 3 + 2, none⟩ = some (.int .i64 (tlN ps x.a : Int)) ∧ w'.cell? ⟨b, off + x.b * 3 + 2, none⟩ = some (.int .i64 (tlN ps x.b : Int)))) (by kernel_rfl) (by kernel_rfl) ?_ (fun hHeld => ?_)
    · (try dsimp only)
      (((try go_split_ands); (try dsimp only); (repeat' apply And.intro)) <;> (repeat (first | with_reducible assumption | ((with_reducible refine cnew0 ?_); simp; done) | ((with_reducible refine cnew1 ?_); simp; done) | (with_reducible refine akeep ?_) | (with_reducible refine dkeep ?_) | ((with_reducible refine skeep ?_ ?_); rotate_left; (first | ((try dsimp only); omega) | (simp; done) | (simp; omega))) | (with_reducible refine bkeep hb3 ?_))))
    refine wpAnyH_take (i := 0) (oi := ⟨_, _, _, _, _, _⟩) (v := ?_) rfl (by kernel_rfl) (by kernel_rfl) (by kernel_rfl) (fun _ _ _ h => h) (Or.inl ⟨by rfl, ?_⟩) (by assumption) ?_
    rotate_left
    · (intro w hSw; (try dsimp only at hSw); go_simp; (try with_reducible rfl))
    (try simp only [Act.put, List.setIfInBounds_toArray, List.set_cons_zero, List.set_cons_succ])
    refine wpAnyH_take (i := 1) (oi := ⟨_, _, _, _, _, _⟩) (v := ?_) rfl (by kernel_rfl) (by kernel_rfl) (by kernel_rfl) (fun _ _ _ h => h) (Or.inl ⟨by rfl, ?_⟩) (by assumption) ?_
    rotate_left
    · (intro w hSw; (try dsimp only at hSw); go_simp; (try with_reducible rfl))
    (try simp only [Act.put, List.setIfInBounds_toArray, List.set_cons_zero, List.set_cons_succ])
    refine wpAnyH_take (i := 2) (oi := ⟨_, _, _, _, _, _⟩) (v := ?_) rfl (by kernel_rfl) (by kernel_rfl) (by kernel_rfl) (fun _ _ _ h => h) (Or.inl ⟨by rfl, ?_⟩) (by assumption) ?_
    rotate_left
    · (intro w hSw; (try dsimp only at hSw); go_simp; (try with_reducible rfl))
    (try simp only [Act.put, List.setIfInBounds_toArray, List.set_cons_zero, List.set_cons_succ])
    refine wpAnyH_take (i := 3) (oi := ⟨_, _, _, _, _, _⟩) (v := ?_) rfl (by kernel_rfl) (by kernel_rfl) (by kernel_rfl) (fun _ _ _ h => h) (Or.inl ⟨by rfl, ?_⟩) (by assumption) ?_
    rotate_left
    · (intro w hSw; (try dsimp only at hSw); go_simp; (try with_reducible rfl))
    (try simp only [Act.put, List.setIfInBounds_toArray, List.set_cons_zero, List.set_cons_succ])
    refine wpAnyH_take (i := 4) (oi := ⟨_, _, _, _, _, _⟩) (v := ?_) rfl (by kernel_rfl) (by kernel_rfl) (by kernel_rfl) (fun _ _ _ h => h) (Or.inl ⟨by rfl, ?_⟩) (by assumption) ?_
    rotate_left
    · (intro w hSw; (try dsimp only at hSw); go_simp; (try with_reducible rfl))
    (try simp only [Act.put, List.setIfInBounds_toArray, List.set_cons_zero, List.set_cons_succ])
    refine wpAnyH_take (i := 5) (oi := ⟨_, _, _, _, _, _⟩) (v := ?_) rfl (by kernel_rfl) (by kernel_rfl) (by kernel_rfl) (fun _ _ _ h => h) (Or.inl ⟨by rfl, ?_⟩) (by assumption) ?_
    rotate_left
    · (intro w hSw; (try dsimp only at hSw); go_simp; (try with_reducible rfl))
    (try simp only [Act.put, List.setIfInBounds_toArray, List.set_cons_zero, List.set_cons_succ])
    refine wpAnyH_take (i := 6) (oi := ⟨_, _, _, _, _, _⟩) (v := ?_) rfl (by kernel_rfl) (by kernel_rfl) (by kernel_rfl) (fun _ _ _ h => h) (Or.inl ⟨by rfl, ?_⟩) (by assumption) ?_
    rotate_left
    · (intro w hSw; (try dsimp only at hSw); go_simp; (try with_reducible rfl))
    (try simp only [Act.put, List.setIfInBounds_toArray, List.set_cons_zero, List.set_cons_succ])
    refine wpAnyH_take (i := 7) (oi := ⟨_, _, _, _, _, _⟩) (v := ?_) rfl (by kernel_rfl) (by kernel_rfl) (by kernel_rfl) (fun _ _ _ h => h) (Or.inl ⟨by rfl, ?_⟩) (by assumption) ?_
    rotate_left
    · (intro w hSw; (try dsimp only at hSw); go_simp; (try with_reducible rfl))
    (try simp only [Act.put, List.setIfInBounds_toArray, List.set_cons_zero, List.set_cons_succ])
    refine wpAnyH_take (i := 8) (oi := ⟨_, _, _, _, _, _⟩) (v := ?_) rfl (by kernel_rfl) (by kernel_rfl) (by kernel_rfl) (fun _ _ _ h => h) (Or.inl ⟨by rfl, ?_⟩) (by assumption) ?_
    rotate_left
    · (intro w hSw; (try dsimp only at hSw); go_simp; (try with_reducible rfl))
    (try simp only [Act.put, List.setIfInBounds_toArray, List.set_cons_zero, List.set_cons_succ])
    refine wpAnyH_take (i := 9) (oi := ⟨_, _, _, _, _, _⟩) (v := ?_) rfl (by kernel_rfl) (by kernel_rfl) (by kernel_rfl) (fun _ _ _ h => h) (Or.inl ⟨by rfl, ?_⟩) (by assumption) ?_
    rotate_left
    · (intro w hSw; (try dsimp only at hSw); go_simp; (try with_reducible rfl))
    (try simp only [Act.put, List.setIfInBounds_toArray, List.set_cons_zero, List.set_cons_succ])
    refine wpAnyH_take (i := 10) (oi := ⟨_, _, _, _, _, _⟩) (v := ?_) rfl (by kernel_rfl) (by kernel_rfl) (by kernel_rfl) (fun _ _ _ h => h) (Or.inl ⟨by rfl, ?_⟩) (by assumption) ?_
    rotate_left
    · (intro w hSw; (try dsimp only at hSw); go_simp; (try with_reducible rfl))
    (try simp only [Act.put, List.setIfInBounds_toArray, List.set_cons_zero, List.set_cons_succ])
    refine wpAnyH_take (i := 11) (oi := ⟨_, _, _, _, _, _⟩) (v := ?_) rfl (by kernel_rfl) (by kernel_rfl) (by kernel_rfl) (fun _ _ _ h => h) (Or.inl ⟨by rfl, ?_⟩) (by assumption) ?_
    rotate_left
    · (intro w hSw; (try dsimp only at hSw); go_simp; (try with_reducible rfl))
    (try simp only [Act.put, List.setIfInBounds_toArray, List.set_cons_zero, List.set_cons_succ])
    refine wpAnyH_take (i := 12) (oi := ⟨_, _, _, _, _, _⟩) (v := ?_) rfl (by kernel_rfl) (by kernel_rfl) (by kernel_rfl) (fun _ _ _ h => h) (Or.inl ⟨by rfl, ?_⟩) (by assumption) ?_
    rotate_left
    · (intro w hSw; (try dsimp only at hSw); go_simp; (try with_reducible rfl))
    (try simp only [Act.put, List.setIfInBounds_toArray, List.set_cons_zero, List.set_cons_succ])
    refine wpAnyH_take (i := 13) (oi := ⟨_, _, _, _, _, _⟩) (v := ?_) rfl (by kernel_rfl) (by kernel_rfl) (by kernel_rfl) (fun _ _ _ h => h) (Or.inl ⟨by rfl, ?_⟩) (by assumption) ?_
    rotate_left
    · (intro w hSw; (try dsimp only at hSw); go_simp; (try with_reducible rfl))
    (try simp only [Act.put, List.setIfInBounds_toArray, List.set_cons_zero, List.set_cons_succ])
    refine wpAnyH_take (i := 14) (oi := ⟨_, _, _, _, _, _⟩) (v := ?_) rfl (by kernel_rfl) (by kernel_rfl) (by kernel_rfl) (fun _ _ _ h => h) (Or.inl ⟨by rfl, ?_⟩) (by assumption) ?_
    rotate_left
    · (intro w hSw; (try dsimp only at hSw); go_simp; (try with_reducible rfl))
    (try simp only [Act.put, List.setIfInBounds_toArray, List.set_cons_zero, List.set_cons_succ])
    refine wpAnyH_take (i := 15) (oi := ⟨_, _, _, _, _, _⟩) (v := ?_) rfl (by kernel_rfl) (by kernel_rfl) (by kernel_rfl) (fun _ _ _ h => h) (Or.inl ⟨by rfl, ?_⟩) (by assumption) ?_
    rotate_left
    · (intro w hSw; (try dsimp only at hSw); go_simp; (try with_reducible rfl))
    (try simp only [Act.put, List.setIfInBounds_toArray, List.set_cons_zero, List.set_cons_succ])
    refine wpAnyH_take (i := 16) (oi := ⟨_, _, _, _, _, _⟩) (v := ?_) rfl (by kernel_rfl) (by kernel_rfl) (by kernel_rfl) (fun _ _ _ h => h) (Or.inl ⟨by rfl, ?_⟩) (by assumption) ?_
    rotate_left
    · (intro w hSw; (try dsimp only at hSw); go_simp; (try with_reducible rfl))
    (try simp only [Act.put, List.setIfInBounds_toArray, List.set_cons_zero, List.set_cons_succ])
    refine wpAnyH_ready (rs := [17]) (by kernel_rfl) (by simp) ?_
    refine AllReadyH.cons (o := ⟨_, _, _, _, _, _⟩) rfl (fun K hK => ?_) AllReadyH.nil
    go_simp
    (go_at_call 82; refine (bond_any vg vt S (tlN ps x.a) m (tlN ps x.b) ((m + 2) % 4) _ (HS.out.below (show Below w0.heap.size w0 _ by (repeat (first | exact Below.refl _ _ | refine Below.setCell ?_ (by first | (simp; done) | (simp; omega) | omega) _ | refine belowN ?_ _ | refine Below.drew ?_ | refine Below.alloc ?_ (by first | (simp; done) | (simp; omega) | omega) _ | refine Below.trans ?_ (Below.mono (by assumption) (by first | (simp; done) | (simp; omega) | omega)))))) sm HVA.out.V htal hm4 htbl rfl).mono ?_; rintro e w3 ⟨rfl, hb3⟩; rw [HZ.out])
    refine hK.out _ _ ?_ (fun hHeld => ?_)
    · (try dsimp only)
      (((try go_split_ands); (try dsimp only); (repeat' apply And.intro)) <;> (repeat (first | with_reducible assumption | ((with_reducible refine cnew0 ?_); simp; done) | ((with_reducible refine cnew1 ?_); simp; done) | (with_reducible refine akeep ?_) | (with_reducible refine dkeep ?_) | ((with_reducible refine skeep ?_ ?_); rotate_left; (first | ((try dsimp only); omega) | (simp; done) | (simp; omega))) | (with_reducible refine bkeep hb3 ?_))))
    clear hK K
    (try simp only [Act.put, List.setIfInBounds_toArray, List.set_cons_zero, List.set_cons_succ])
    refine wpAnyH_take (i := 18) (oi := ⟨_, _, _, _, _, _⟩) (v := ?_) rfl (by kernel_rfl) (by kernel_rfl) (by kernel_rfl) (fun _ _ _ h => h) (Or.inl ⟨by rfl, ?_⟩) (by assumption) ?_
    rotate_left
    · (intro w hSw; (try dsimp only at hSw); go_simp; (try with_reducible rfl))
    (try simp only [Act.put, List.setIfInBounds_toArray, List.set_cons_zero, List.set_cons_succ])
    refine wpAnyH_done (by kernel_rfl) ?_ _
    dsimp only [onlyN]
    have B3 : Below W'.heap.size W' w3 := by (repeat (first | exact Below.refl _ _ | refine Below.setCell ?_ (by first | (simp; done) | (simp; omega) | omega) _ | refine belowN ?_ _ | refine Below.drew ?_ | refine Below.alloc ?_ (by first | (simp; done) | (simp; omega) | omega) _ | refine Below.trans ?_ (Below.mono (by assumption) (by first | (simp; done) | (simp; omega) | omega))))
    have z3 := B3.size
    have hJ3 := hJ _ _ _ _ hJ1 (Aside.of B3)
    have Y3 := HYB.out.below B3
    have X3 := HX.out.below B3
    have S3 := HSB.out.below B3
    have A3 := HAB.out.below B3
    have b03 : Below w0.heap.size w0 w3 := hb1.trans (B3.mono s01)
    obtain ⟨u0, u1, u2⟩ := id X3
    obtain ⟨v0⟩ := id Y3
    clear x0 x1 x2 g0 g1 e0 y0 ca cb hHeld
    by_cases hz0 : 0 < z
    · have hzb : decide ((0 : Int) < z) = true := by simpa using hz0
      have HSN : Hid (bdsT S ps (pre ++ [x]) = bdsT S ps pre ++ [⟨x.a, x.b, z⟩]) := Lib.hid <| by rw [bdsT_snoc, bdOf_yes (by rw [hbz]; exact hz0), hbz]
      obtain ⟨fn, tmps, assign, body, hyd, hR⟩ := hY _ _ ⟨x.a, x.b, z⟩ w3 hJ3 (fun j h => by have := hC j h; omega) (by omega) (by rw [← HSN.out]; exact bdsT_pre hpre)
      dsimp only [encB] at hyd
      gi_wp2
      refine (roundIn_round hR).mono ?_
      rintro e W3 ⟨rfl, C', hJ4, hC4, hsp⟩
      have z4 := hsp.size
      have nq4 : ¬ C' W.heap.size := fun h => (hC4 _ h).1.elim nq1 (fun h => by omega)
      clear hyd hR
      gi_wp2
      exact ⟨C', ⟨by rw [HSN.out]; exact hJ4, nq4, Y3.of_block (hsp.block _ (by omega) (.inr ⟨Nat.le_refl _, nq1⟩)), S3.of_block (hsp.block _ (by omega) (.inl hNs)), A3.of_block (hsp.block _ (by omega) (.inl hNa)), b03.trans (hsp.below hN (by omega)), by omega⟩,
        fun k h => ⟨(hC4 k h).1.imp id (fun h => by omega), (hC4 k h).2⟩, (Spare.of B3).trans (hsp.mono (by omega))⟩
    · have hzb : decide ((0 : Int) < z) = false := by simpa using hz0
      have HSN : Hid (bdsT S ps (pre ++ [x]) = bdsT S ps pre) := Lib.hid <| by rw [bdsT_snoc, bdOf_no (by rw [hbz]; exact hz0), List.append_nil]
      gi_wp2
      refine ⟨fun _ h => (by cases h), ?_⟩
      gi_wp2
      exact ⟨C, ⟨by rw [HSN.out]; exact hJ3, nq1, by omega⟩, fun k h => ⟨.inl h, by have := hC k h; omega⟩, Spare.of B3⟩
  case done =>
    rintro C W3 hzW ⟨h1, h2, h3, h4, h5, h6, h7⟩ nD hK
    gi_wp2
    refine ⟨by simp, .inl ⟨_, _, rfl, run_takeDeferred hK, ?_⟩⟩
    exact ⟨_, results_none rfl _ _ _, ⟨_, rfl⟩, C, hJ _ _ _ _ h1 (Aside.put (by omega) nD _), by simp; omega⟩
end Go.Proofs.YtnofbeeihdgmdaaDoor
