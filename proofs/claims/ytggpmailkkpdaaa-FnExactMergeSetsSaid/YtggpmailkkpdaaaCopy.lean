/-
  Copies of numbers and of glues in new memory, by the model and by the program, and a new tile. Conditions: each theorem's own.
-/
import Derived.Test.YtggpmailkkpdaaaTilesW
import Derived.Deep.AppendLies
import Derived.Laws.AppendOwnNone
namespace Go.Proofs.Ytggpmailkkpdaaa
open Go.RowKit

theorem ints_news {w : World} {b off n : Nat} {zs : List Int} (hn : zs.length = n) (h : ∀ i, i < n → w.cell? ⟨b, off + i, none⟩ = some (.int .i64 (iAt zs i))) :
    ∀ j u, (zs.map (Value.int .i64))[j]? = some u → w.cell? ((⟨b, off, none⟩ : Addr).add j) = some u := by
  intro j u hj
  have hlt : j < zs.length := by
    have := (List.getElem?_eq_some_iff.1 hj).1
    simpa using this
  rw [Go.WideShapes.add_plain, h j (by omega), ← hj]
  simp [iAt, hlt]

/-- A call that returns these numbers in a new block. -/
def NewI (W : World) (zs : List Int) (e : Ending) (w' : World) : Prop := ∃ cap b f, e = .returned (.slice (some ⟨b, 0, none⟩) zs.length cap) ∧ W.heap.size ≤ b ∧ zs.length ≤ cap ∧ cap ≤ maxLen ∧ w'.rowIs b 2 cap f ∧ ∀ i, i < zs.length → f i = .int .i64 (iAt zs i)

theorem l00Own_any (v : Value) (zs : List Int) (w : World) (hv : Ints w v zs) (h0 : 0 < zs.length) (hz : zs.length ≤ 1048576) :
    Calls Try.prog 69 #[v] w fun e w' => NewI w zs e w' ∧ Below w.heap.size w w' := by
  obtain ⟨ao, cap, rfl, hl, hm, hc⟩ := hv
  obtain ⟨b, off, rfl, H1⟩ := hc h0
  have H2 : ∀ i, i < zs.length → (w.alloc (.cells #[] 2)).cell? ⟨b, off + i, none⟩ = some (.int .i64 (iAt zs i)) := fun i hi => akeep (by have := H1 i 0 hi (by omega); simpa using this)
  have HN := Lib.hid (ints_news rfl H2)
  have HL := Lib.hid h0
  clear hc H1 H2
  obtain ⟨i0, hi, hz0, hz1, hz2⟩ := info_parts info_i64
  go_enter Try.func69, Try.ntmps69
  go_wp2_with (at_builtin; refine wpList_append_lies _ rfl _ _ 37 rfl w.heap.size 2 i0 (.int .i64 0) 1 8 Try.underlying37 hi hz0 hz1 hz2 rfl (by decide) _ _ _ rfl (World.ownsRow_lit w #[] 0 (Nat.le_refl _) (by unfold maxLen; omega) rfl) ⟨b, off, none⟩ zs.length cap (zs.map (Value.int .i64)) rfl (by simp) HN.out (ints_oneCell .i64 zs) HL.out (maxLen_of (by omega)) (by omega) (by simp) _ rfl ?_; intro g cap' w1 hown hgrow hat hlt)
  go_ret
  have hk : ∀ k, some w.heap.size = some k → w.heap.size ≤ k := fun k hk => by cases hk; exact Nat.le_refl _
  have hb : Below w.heap.size w w1 := ((Below.refl _ w).alloc (Nat.le_refl _) _).grown hgrow (by simp) hk
  obtain ⟨b', hb', ho⟩ := OwnAt.of_row (by simpa using hown)
  rcases ho with ⟨h, -⟩ | ⟨c2, f, h, h2⟩
  · simp at h
  · have e : g = b' := by simp at h; exact h.1
    subst e
    have e2 : cap' = c2 := by simp at h; exact h
    subst e2
    exact ⟨⟨cap', g, f, by simp, hb', h2⟩, hb⟩

/-- A call that returns a tile with these sides in a new block. -/
def NewT (W : World) (s : ByteArray) (zs : List Int) (e : Ending) (w' : World) : Prop := ∃ cap b f, e = .returned (.agg #[.string s, .slice (some ⟨b, 0, none⟩) zs.length cap]) ∧ W.heap.size ≤ b ∧ zs.length ≤ cap ∧ cap ≤ maxLen ∧ w'.rowIs b 2 cap f ∧ ∀ i, i < zs.length → f i = .int .i64 (iAt zs i)

theorem makeTile_any (s : ByteArray) (v : Value) (zs : List Int) (w : World) (hv : Ints w v zs) (h0 : 0 < zs.length) (hz : zs.length ≤ 1048576) :
    Calls Try.prog 51 #[.string s, v] w fun e w' => NewT w s zs e w' ∧ Below w.heap.size w w' := by
  obtain ⟨ao, cap, rfl, hl, hm, hc⟩ := hv
  obtain ⟨b, off, rfl, H1⟩ := hc h0
  have H2 : ∀ i, i < zs.length → (w.alloc (.cells #[.string ⟨#[]⟩, .slice none 0 0] 64)).cell? ⟨b, off + i, none⟩ = some (.int .i64 (iAt zs i)) := fun i hi => akeep (by have := H1 i 0 hi (by omega); simpa using this)
  have HN := Lib.hid (ints_news rfl H2)
  have HL := Lib.hid h0
  clear hc H1 H2
  obtain ⟨i0, hi, hz0, hz1, hz2⟩ := info_parts info_i64
  go_enter Try.func51, Try.ntmps51
  go_wp2_with (at_builtin; refine wpList_append_lies _ rfl _ _ 37 rfl (w.heap.size + 1) 2 i0 (.int .i64 0) 1 8 Try.underlying37 hi hz0 hz1 hz2 rfl (by decide) (.slice none 0 0) 0 [] rfl (World.ownsRow_nil _ _ _ _) ⟨b, off, none⟩ zs.length cap (zs.map (Value.int .i64)) rfl (by simp) HN.out (ints_oneCell .i64 zs) HL.out (maxLen_of (by omega)) (by omega) (by simp) _ rfl ?_; intro g cap' w1 hown hgrow hat hlt; obtain ⟨k0, k1, z0, z1⟩ := (Two.new w (.string ⟨#[]⟩) (.slice none 0 0) 64 rfl).grown hgrow (by simp [Value.ownBlock]); have HO := Lib.hid hown; have HGr := Lib.hid hgrow; have HAt := Lib.hid hat; clear hown hgrow hat)
  obtain ⟨b', hb', ho⟩ := OwnAt.of_row (by simpa using HO.out)
  rcases ho with ⟨h, -⟩ | ⟨c2, f, h, h2⟩
  · simp at h
  · have e : g = b' := by simp at h; exact h.1
    subst e
    have e2 : cap' = c2 := by simp at h; exact h
    subst e2
    have hb : Below w.heap.size w w1 := ((Below.refl _ w).alloc (Nat.le_refl _) _).grown HGr.out (by simp) (fun k hk => by simp [Value.ownBlock] at hk)
    refine bodyPost_ret (v := .agg #[.string s, .slice (some ⟨g, 0, none⟩) zs.length cap']) ?_ rfl ⟨⟨cap', g, f, rfl, by omega, h2.1, h2.2.1, (h2.2.2.1.setOther (by (first | ((try dsimp only); omega) | (simp; done) | (simp; omega))) _).setOther (by (first | ((try dsimp only); omega) | (simp; done) | (simp; omega))) _, h2.2.2.2⟩, by (repeat (first | exact Below.refl _ _ | refine Below.setCell ?_ (by first | (simp; done) | (simp; omega) | omega) _ | refine belowN ?_ _ | refine Below.drew ?_ | refine Below.alloc ?_ (by first | (simp; done) | (simp; omega) | omega) _ | refine Below.trans ?_ (Below.mono (by assumption) (by first | (simp; done) | (simp; omega) | omega))))⟩
    simp [results, Try.results51, go_sem, k0, k1]

/-- The cells of a list of glues. -/
def gCells (gs : List Gl) : List Value := (List.range (gs.length * 2)).map (gCell gs)
theorem gCells_at (gs : List Gl) {j : Nat} (h : j < gs.length * 2) : (gCells gs)[j]? = some (gCell gs j) := by simp [gCells, h]
theorem gCells_one (gs : List Gl) : ∀ u ∈ gCells gs, u.oneCell' = true := by
  intro u hu
  obtain ⟨j, -, rfl⟩ := List.mem_map.1 hu
  unfold gCell
  split <;> rfl
theorem glues_news {w : World} {b off : Nat} {gs : List Gl} (h : ∀ i j, i < gs.length → j < 2 → w.cell? ⟨b, off + i * 2 + j, none⟩ = some (if j = 0 then .string (gN gs i) else .int .i64 (gS gs i))) :
    ∀ j u, (gCells gs)[j]? = some u → w.cell? ((⟨b, off, none⟩ : Addr).add j) = some u := by
  intro j u hj
  have hlt : j < gs.length * 2 := by
    have := (List.getElem?_eq_some_iff.1 hj).1
    simpa [gCells] using this
  rw [gCells_at _ hlt] at hj
  rw [Go.WideShapes.add_plain, show off + j = off + j / 2 * 2 + j % 2 by omega, h (j / 2) (j % 2) (by omega) (by omega), ← hj]
  rfl
theorem OwnGs.of_row {w : World} {base : Nat} {v : Value} {gs : List Gl} (h : w.ownsRow base 62 2 v gs.length (gCells gs)) : OwnGs w base w.heap.size v gs := by
  by_cases h0 : v = .slice none 0 0
  · subst h0
    rcases h.2 with ⟨-, hn⟩ | ⟨g, cap, cur, hv, -⟩
    · exact .inl ⟨rfl, hn⟩
    · simp at hv
  · obtain ⟨g, cap, rfl⟩ : ∃ g cap, v = .slice (some ⟨g, 0, none⟩) gs.length cap := by
      rcases h.2 with ⟨hv, -⟩ | ⟨g, cap, cur, hv, -⟩
      · exact absurd hv h0
      · exact ⟨g, cap, hv⟩
    obtain ⟨h1, h2, h3, f, hr, hf⟩ := row_fn h
    refine .inr ⟨g, cap, rfl, h2, h3, ⟨f, hr, fun i hi => ⟨?_, ?_⟩⟩, h1, hr.lt⟩
    · have := hf (i * 2) (by omega)
      rw [gCells_at _ (by omega)] at this
      simpa [gCell] using this
    · have := hf (i * 2 + 1) (by omega)
      rw [gCells_at _ (by omega)] at this
      simpa [gCell, show (i * 2 + 1) % 2 = 1 by omega, show (i * 2 + 1) / 2 = i by omega] using this

/-- A call that returns these glues in a new block. -/
def NewG (W : World) (gs : List Gl) (e : Ending) (w' : World) : Prop := ∃ v, e = .returned v ∧ OwnGs w' W.heap.size w'.heap.size v gs

theorem OwnGs.solid {w : World} {lo hi : Nat} {v : Value} {gs : List Gl} (h : OwnGs w lo hi v gs) : Solid v := by
  rcases h with ⟨h, -⟩ | ⟨g, cap, h, -⟩
  · exact .inl h
  · exact .inr ⟨_, _, _, h⟩
theorem OwnGs.shape {w : World} {lo hi : Nat} {v : Value} {gs : List Gl} (h : OwnGs w lo hi v gs) : ∃ a n c, v = .slice a n c := by
  rcases h with ⟨h, -⟩ | ⟨g, cap, h, -⟩ <;> exact ⟨_, _, _, h⟩
theorem SetOwn.solid {w : World} {lo : Nat} {vg vt : Value} {S : Set_} (h : SetOwn w lo vg vt S) : Solid vg :=
  let ⟨_, _, _, _, h3, _⟩ := h
  .inr ⟨_, _, _, h3.1⟩

theorem copyGlues_any (v : Value) (gs : List Gl) (w : World) (hv : Glues w v gs) (hsol : Solid v) (hz : gs.length ≤ 1048576) :
    Calls Try.prog 74 #[v] w fun e w' => NewG w gs e w' ∧ Below w.heap.size w w' := by
  obtain ⟨i0, hi, hz0, hz1, hz2⟩ := info_parts info_glue
  have hgc : (gCells gs).length = gs.length * 2 := by simp [gCells]
  have HGC := Lib.hid hgc
  rcases hsol with rfl | ⟨ad, n, cap, rfl⟩
  · obtain ⟨ao, cap, he, -⟩ := hv
    have hn : gs.length = 0 := by simp at he; exact he.2.1.symm
    have HZ := Lib.hid hn
    clear he hn hgc
    go_enter Try.func74, Try.ntmps74
    go_wp2_with (at_builtin; refine wpList_append_own_none rfl _ _ 27 rfl w.heap.size 62 i0 2 Try.underlying27 hi (.slice none 0 0) 0 [] rfl (World.ownsRow_nil _ _ _ _) rfl ?_)
    go_ret
    exact ⟨⟨_, rfl, .inl ⟨rfl, HZ.out⟩⟩, Below.refl _ _⟩
  · obtain ⟨ao, cap', he, hl, hm, hc⟩ := hv
    simp at he
    obtain ⟨rfl, rfl, rfl⟩ := he
    have HN : Hid (∀ j u, (gCells gs)[j]? = some u → w.cell? (ad.add j) = some u) := by
      by_cases h0 : 0 < gs.length
      · obtain ⟨b, off, h, H1⟩ := hc h0
        obtain rfl : ad = ⟨b, off, none⟩ := by simpa using h
        exact glues_news H1
      · have : gs = [] := List.eq_nil_of_length_eq_zero (by omega)
        subst this
        exact fun j u hj => by simp [gCells] at hj
    clear hc hgc
    go_enter Try.func74, Try.ntmps74
    go_wp2_with (at_builtin; refine wpList_append_own _ rfl _ _ 27 rfl w.heap.size 62 i0 (.agg #[.string ⟨#[]⟩, .int .i64 0]) 2 24 Try.underlying27 hi hz0 hz1 hz2 rfl (by decide) (.slice none 0 0) 0 [] rfl (World.ownsRow_nil _ _ _ _) ad gs.length cap (gCells gs) rfl HGC.out HN.out (gCells_one gs) (maxLen_of (by omega)) (by omega) (by simp) ?_; intro v' w1 hown hgrow hat; have HO := Lib.hid hown; have HGr := Lib.hid hgrow; clear hown hgrow hat)
    go_ret
    exact ⟨⟨_, rfl, OwnGs.of_row (by simpa using HO.out)⟩, grown_below HGr.out (fun k hk => by simp [Value.ownBlock] at hk)⟩

end Go.Proofs.Ytggpmailkkpdaaa
