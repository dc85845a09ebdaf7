/-
  The glues of two sets merged: which ones come, and the program's merge of them. Conditions: each theorem's own.
-/
import Derived.Test.YtggpmailkkpdaaaStep_
namespace Go.Proofs.Ytggpmailkkpdaaa
open Go.RowKit Go.Maps Go.WideMaps

/-- The first k glues of hs whose names gs lacks. -/
def mNew (gs hs : List Gl) : Nat → List Gl
  | 0 => []
  | k + 1 => if gFind gs (gN hs k) = 0 then mNew gs hs k ++ [⟨gN hs k, gS hs k⟩] else mNew gs hs k
/-- The glues behind k glues of the second set. -/
def mG (gs hs : List Gl) (k : Nat) : List Gl := gs ++ mNew gs hs k
/-- The number of the k-th glue of hs. -/
def mNum (gs hs : List Gl) (k : Nat) : Int := if gFind gs (gN hs k) = 0 then ((mG gs hs k).length : Int) + 1 else gFind gs (gN hs k)
def mNums (gs hs : List Gl) : Nat → List Int
  | 0 => [0]
  | k + 1 => mNums gs hs k ++ [mNum gs hs k]
/-- The k-th glue of hs has another strength than the one of its name in gs. -/
def gClash (gs hs : List Gl) (k : Nat) : Prop := ∃ p, p < gs.length ∧ gFind gs (gN hs k) = (p : Int) + 1 ∧ gS gs p ≠ gS hs k
def gAgree (gs hs : List Gl) (n : Nat) : Prop := ∀ k, k < n → ¬ gClash gs hs k
theorem mNew_len (gs hs : List Gl) (k : Nat) : (mNew gs hs k).length ≤ k := by
  induction k with
  | zero => exact Nat.le_refl 0
  | succ k ih =>
    simp only [mNew]
    split
    · simp; omega
    · omega
theorem mNums_len (gs hs : List Gl) (k : Nat) : (mNums gs hs k).length = k + 1 := by
  induction k with
  | zero => rfl
  | succ k ih => simp [mNums, ih]
theorem mG_in {gs hs : List Gl} {k : Nat} (h : gFind gs (gN hs k) = 0) : mG gs hs (k + 1) = mG gs hs k ++ [⟨gN hs k, gS hs k⟩] ∧ mNum gs hs k = ((mG gs hs k).length : Int) + 1 := by
  unfold mG mNum
  simp only [mNew]
  rw [if_pos h, if_pos h]
  exact ⟨by simp, rfl⟩
theorem mG_out {gs hs : List Gl} {k : Nat} {p : Nat} (h : gFind gs (gN hs k) = (p : Int) + 1) : mG gs hs (k + 1) = mG gs hs k ∧ mNum gs hs k = (p : Int) + 1 := by
  have h0 : ¬ gFind gs (gN hs k) = 0 := by omega
  unfold mG mNum
  simp only [mNew]
  rw [if_neg h0, if_neg h0]
  exact ⟨rfl, h⟩
theorem gCells_snoc (gs : List Gl) (g : Gl) : gCells (gs ++ [g]) = gCells gs ++ [.string g.name, .int .i64 g.str] := by
  apply List.ext_getElem?
  intro j
  by_cases h : j < gs.length * 2
  · rw [gCells_at _ (by simp; omega), List.getElem?_append_left (by simp [gCells]; omega), gCells_at _ h]
    have h2 : j / 2 < gs.length := by omega
    simp [gCell, gN, gS, List.getElem?_append_left h2]
  · rw [List.getElem?_append_right (by simp [gCells]; omega)]
    have e : (gCells gs).length = gs.length * 2 := by simp [gCells]
    rw [e]
    by_cases h1 : j = gs.length * 2
    · subst h1
      rw [gCells_at _ (by simp)]
      simp [gCell, gN]
    · by_cases h2 : j = gs.length * 2 + 1
      · subst h2
        rw [gCells_at _ (by simp; omega)]
        simp [gCell, gS, show (gs.length * 2 + 1) % 2 = 1 by omega, show (gs.length * 2 + 1) / 2 = gs.length by omega]
      · rw [List.getElem?_eq_none (by simp [gCells]; omega), List.getElem?_eq_none (by simp; omega)]

/-- Two rows of two types do not lie in one block. -/
theorem rows_apart {w : World} {base base' : Nat} {e e' : TypeId} {size size' : Nat} {v v' : Value} {n n' : Nat} {xs xs' : List Value} (h : w.ownsRow base e size v n xs) (h' : w.ownsRow base' e' size' v' n' xs') (hne : e ≠ e') :
    v.ownBlock = none ∨ v.ownBlock ≠ v'.ownBlock := by
  rcases h.2 with ⟨rfl, _⟩ | ⟨g, cap, cur, rfl, _, hg, _⟩
  · exact .inl rfl
  · rcases h'.2 with ⟨rfl, _⟩ | ⟨g', cap', cur', rfl, _, hg', _⟩
    · exact .inr (by simp [Value.ownBlock])
    · refine .inr fun heq => ?_
      obtain rfl : g = g' := by simpa [Value.ownBlock] using heq
      have := hg.symm.trans hg'
      simp at this
      exact hne this.2
/-- A map does not lie in a row's block. -/
theorem map_apart {w : World} {b : Nat} {N : Nat → ByteArray} {c : Int} {k : Nat} (hm : NumMap w b N c k) {base : Nat} {e : TypeId} {size : Nat} {v : Value} {n : Nat} {xs : List Value} (h : w.ownsRow base e size v n xs) : some b ≠ v.ownBlock := by
  obtain ⟨es, clock, hb, _⟩ := hm
  rcases h.2 with ⟨rfl, _⟩ | ⟨g, cap, cur, rfl, _, hg, _⟩
  · simp [Value.ownBlock]
  · intro heq
    obtain rfl : b = g := by simpa [Value.ownBlock] using heq
    have := hb.symm.trans hg
    simp at this
/-- A look-up of a name. -/
theorem wpList_lookup_num (w : World) {ops : Array Oper} {rest : List Oper} {o : Oper} {a : Act} {Q : Exit → Act → World → Prop} (hg : o.guard = none) (m x : Operand) (hop : o.op = Op.lookup 113 m x true)
    (b : Nat) {N : Nat → ByteArray} {c0 : Int} {k : Nat} (hm : a.eval m = .map (some b)) (hown : NumMap w b N c0 k) (s : ByteArray) (hs : s.size ≤ maxLen) (hx : a.eval x = .string s) (c : Int) (f : Bool)
    (hhas : Maps.has (numMap N c0 k) (keyL s) = f) (hat : (numMap N c0 k).atKey (keyL s) (.lit (.int .i64 0)) = .lit (.int .i64 c))
    (hK : wpList Try.prog ops Q rest (a.put o.dst (.tuple #[.int .i64 c, .bool f])) w) : wpList Try.prog ops Q (o :: rest) a w := by
  refine wpList_lookup_own_ok_int w hg m x _ hop 9 2 .i64 law Try.underlying113 Try.underlying2 (zeroE _) b k _ hm hown _ _ hx (keyOf_string_mk Try.underlying9 hs) ?_
  intro c' hat' _
  have e : (DataW.lit (Lit.int .i64 c) : DataW Unit) = .lit (.int .i64 c') := hat.symm.trans hat'
  simp only [DataW.lit.injEq, Lit.int.injEq, true_and] at e
  subst e
  show wpList Try.prog ops Q rest (a.put o.dst (.tuple #[.int .i64 c, .bool (Maps.has (numMap N c0 k) (keyL s))])) w
  rw [hhas]
  exact hK

/-- A call that returns a copy of these glues as a row of its own. -/
def RowG (W : World) (gs : List Gl) (e : Ending) (w' : World) : Prop := ∃ v, e = .returned v ∧ w'.ownsRow W.heap.size 62 2 v gs.length (gCells gs)
theorem copyGlues_row (v : Value) (gs : List Gl) (w : World) (hv : Glues w v gs) (hsol : Solid v) (hz : gs.length ≤ 1048576) :
    Calls Try.prog 74 #[v] w fun e w' => RowG w gs e w' ∧ Below w.heap.size w w' := by
  obtain ⟨i0, hi, hz0, hz1, hz2⟩ := info_parts info_glue
  have hgc : (gCells gs).length = gs.length * 2 := by simp [gCells]
  have HGC := Lib.hid hgc
  rcases hsol with rfl | ⟨ad, n, cap, rfl⟩
  · obtain ⟨ao, cap, he, -⟩ := hv
    have hn : gs.length = 0 := by simp at he; exact he.2.1.symm
    have HZ := Lib.hid hn
    clear he hn hgc
    go_enter Try.func74, Try.ntmps74
    go_wp2_with (at_builtin; refine wpList_append_own_none rfl _ _ 27 rfl w.heap.size 62 i0 2 Try.underlying27 hi (.slice none 0 0) 0 [] rfl (World.ownsRow_nil _ _ _ _) rfl ?_)
    go_ret
    have e0 : gs = [] := List.eq_nil_of_length_eq_zero HZ.out
    exact ⟨⟨_, rfl, by rw [e0]; exact World.ownsRow_nil _ _ _ _⟩, Below.refl _ _⟩
  · obtain ⟨ao, cap', he, hl, hm, hc⟩ := hv
    simp at he
    obtain ⟨rfl, rfl, rfl⟩ := he
    have HN : Hid (∀ j u, (gCells gs)[j]? = some u → w.cell? (ad.add j) = some u) := by
      by_cases h0 : 0 < gs.length
      · obtain ⟨b, off, h, H1⟩ := hc h0
        obtain rfl : ad = ⟨b, off, none⟩ := by simpa using h
        exact glues_news H1
      · have : gs = [] := List.eq_nil_of_length_eq_zero (by omega)
        subst this
        exact fun j u hj => by simp [gCells] at hj
    clear hc hgc
    go_enter Try.func74, Try.ntmps74
    go_wp2_with (at_builtin; refine wpList_append_own _ rfl _ _ 27 rfl w.heap.size 62 i0 (.agg #[.string ⟨#[]⟩, .int .i64 0]) 2 24 Try.underlying27 hi hz0 hz1 hz2 rfl (by decide) (.slice none 0 0) 0 [] rfl (World.ownsRow_nil _ _ _ _) ad gs.length cap (gCells gs) rfl HGC.out HN.out (gCells_one gs) (maxLen_of (by omega)) (by omega) (by simp) ?_; intro v' w1 hown hgrow hat; have HO := Lib.hid hown; have HGr := Lib.hid hgrow; clear hown hgrow hat)
    go_ret
    exact ⟨⟨_, rfl, by simpa using HO.out⟩, grown_below HGr.out (fun k hk => by simp [Value.ownBlock] at hk)⟩

end Go.Proofs.Ytggpmailkkpdaaa
