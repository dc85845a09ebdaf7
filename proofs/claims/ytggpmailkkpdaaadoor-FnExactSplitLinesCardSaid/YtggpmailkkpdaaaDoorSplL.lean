/-
  The lines of a text, the model's and the program's: the same texts, in new memory. Conditions: the text is no longer than 2^20.
-/
import Derived.Test.YtggpmailkkpdaaaDoorLin
import Derived.Test.YtggpmailkkpdaaaDoorShelfL
import Derived.Test.YtggpmailkkpdaaaDoorStrs
import Derived.Maps.AppendAt
import Derived.Laws.OwnMore
namespace Go.Proofs.YtggpmailkkpdaaaDoor
open Go.RowKit

theorem info_str : (Tryd.prog.info? 9).map (fun i => (i.zero, i.size, i.bytes)) = some (some (.string ⟨#[]⟩), 1, 16) := by kernel_rfl
theorem at_get {s : ByteArray} {i : Nat} (h : i < s.size) : s.data.toList[i]? = some (s[i]'h) := by
  rw [Array.getElem?_toList]
  exact Array.getElem?_eq_getElem h
theorem spc_hit {s : ByteArray} {k : Nat} (h : k < s.size) (e : (((s[k]).toNat : Int) == 10) = true) : spc 10 s (k + 1) = ((spc 10 s k).1 ++ [s.extract (spc 10 s k).2 k], k + 1) := by
  have h1 : s[k] = 10 := UInt8.toNat_inj.1 (by have h2 : ((s[k]).toNat : Int) = 10 := by simpa using e
                                               have h3 : (s[k]).toNat = 10 := by omega
                                               rw [h3]; rfl)
  rw [spc, at_get h, h1, if_pos rfl]
theorem spc_miss {s : ByteArray} {k : Nat} (h : k < s.size) (e : (((s[k]).toNat : Int) == 10) = false) : spc 10 s (k + 1) = spc 10 s k := by
  have h1 : ¬ s[k] = 10 := fun h2 => by rw [h2] at e; exact absurd e (by decide)
  rw [spc, at_get h, if_neg (fun h2 => h1 (Option.some.inj h2))]
set_option maxHeartbeats 2000000 in
set_option maxRecDepth 100000 in
theorem l01Split_ten (s : ByteArray) (w : World) (hmax : s.size ≤ 1048576) :
    Calls Tryd.prog 58 #[.string s, .int .u8 10] w fun e w' => ∃ v, e = .returned v ∧ w'.ownsRow w.heap.size 9 1 v (pcc 10 s).length ((pcc 10 s).map Value.string) ∧ Below w.heap.size w w' := by
  obtain ⟨i0, hi, hz0, hz1, hz2⟩ := info_parts info_str
  go_enter Tryd.func58, Tryd.ntmps58
  go_wp2
  go_loopw [5, 6, 7] (fun out fr ix wr => ∃ (k : Nat), k ≤ s.size ∧ fr = .int .i64 (spc 10 s k).2 ∧ ix = .int .i64 k ∧
      wr.ownsRow w.heap.size 9 1 out (spc 10 s k).1.length ((spc 10 s k).1.map Value.string) ∧ Below w.heap.size w wr)
    (fun _ _ ix _ => s.size - (intOf ix).toNat)
  case atStart =>
    exact ⟨0, Nat.zero_le _, rfl, rfl, World.ownsRow_lit w #[] 0 (Nat.le_refl _) (Nat.zero_le _) rfl, (Below.refl _ _).alloc (Nat.le_refl _) _⟩
  case round =>
    obtain ⟨k, hk, rfl, rfl, hown, hnx⟩ := hrel
    have hsl := spc_le 10 s k
    generalize hf : (spc 10 s k).2 = f at hsl ⊢
    have hsz := hnx.size
    have HF := Lib.hid hf
    clear hf
    go_wp2_with (first
      | (at_builtin; (refine wpList_append_own _ rfl (.tmp 20) (.tmp 25) 22 rfl w.heap.size 9 i0 (.string ⟨#[]⟩) 1 16 Tryd.underlying22 hi hz0 hz1 hz2 rfl (by decide) _ _ _ rfl (hown.alloc _) ⟨wr.heap.size, 0, none⟩ 1 1 [.string (s.extract f k)] rfl rfl (by intro j u hj; match j, hj with | 0, hj => simp at hj; subst hj; simp [Addr.add]) (by intro u hu; simp at hu; subst hu; rfl) (by unfold maxLen; omega) (by omega) (by simp; omega) ?_; intro v1 w1 hown1 hgrow1 hiff1))
      | (at_builtin; (refine wpList_append_own _ rfl (.tmp 29) (.tmp 33) 22 rfl w.heap.size 9 i0 (.string ⟨#[]⟩) 1 16 Tryd.underlying22 hi hz0 hz1 hz2 rfl (by decide) _ _ _ rfl (hown.alloc _) ⟨wr.heap.size, 0, none⟩ 1 1 [.string (s.extract f s.size)] rfl rfl (by intro j u hj; match j, hj with | 0, hj => simp at hj; subst hj; simp [Addr.add]) (by intro u hu; simp at hu; subst hu; rfl) (by unfold maxLen; omega) (by omega) (by simp; omega) ?_; intro v2 w2 hown2 hgrow2 hiff2))
      | go_in)
    · have hh : (((s[k]).toNat : Int) == 10) = true := by assumption
      have hlt : k < s.size := by assumption
      have e1 := spc_hit hlt hh
      have e2 := HF.out
      have e3 : (spc 10 s (k + 1)).1 = (spc 10 s k).1 ++ [s.extract f k] := by rw [e1, ← e2]
      have e4 : (spc 10 s (k + 1)).2 = k + 1 := by rw [e1]
      refine ⟨⟨k + 1, hlt, by rw [e4]; rfl, by go_num, ?_, (hnx.alloc hsz _).grown hgrow1 (by simp; omega) (fun j hj => (hown.lt j hj).1)⟩, by simp [intOf]; omega⟩
      rw [e3, List.length_append, List.map_append]
      exact hown1
    · have hh : (((s[k]).toNat : Int) == 10) = false := by assumption
      have hlt : k < s.size := by assumption
      have e1 := spc_miss hlt hh
      have e2 := HF.out
      refine ⟨⟨k + 1, hlt, by rw [e1, e2], by go_num, ?_, hnx⟩, by simp [intOf]; omega⟩
      rw [e1]
      exact hown
    · have e2 := HF.out
      go_ret
      have hk2 : k = s.size := by omega
      subst hk2
      refine ⟨_, rfl, ?_, (hnx.alloc hsz _).grown hgrow2 (by simp; omega) (fun j hj => (hown.lt j hj).1)⟩
      unfold pcc
      rw [e2, List.length_append, List.map_append]
      exact hown2

theorem own_some {w : World} {B n : Nat} {v : Value} {xs : List Value} (h : w.ownsRow B 9 1 v n xs) (hn : n ≠ 0) : ∃ g cap, v = .slice (some ⟨g, 0, none⟩) n cap ∧ n ≤ cap ∧ cap ≤ maxLen := by
  rcases h.2 with ⟨_, h2⟩ | ⟨g, cap, cur, rfl, -, -, hl, hm, -⟩
  · exact absurd h2 hn
  · exact ⟨g, cap, rfl, hl, hm⟩
theorem strs_of_own {w : World} {B : Nat} {g cap : Nat} {xs : List ByteArray} {n m : Nat} (h : w.ownsRow B 9 1 (.slice (some ⟨g, 0, none⟩) n cap) n (xs.map Value.string)) (hm : m ≤ n) (hn : n ≤ cap) (hc : cap ≤ maxLen) (ys : List ByteArray) (hy : ys.length = m) (he : ∀ i, i < m → ys[i]? = xs[i]?) : Strs w (.slice (some ⟨g, 0, none⟩) m cap) ys := by
  subst hy
  refine ⟨_, cap, rfl, by omega, hc, fun _ => ⟨g, 0, rfl, fun i j hi hj => ?_⟩⟩
  obtain rfl : j = 0 := by omega
  have h1 := h.cellAt i (by omega)
  have h2 := he i hi
  rw [List.getElem?_map, ← h2, List.getElem?_eq_getElem hi] at h1
  simp [wAt, hi] at h1 ⊢
  exact h1
/-- A call that returns a list of texts, to be read. -/
def StrsRead (xs : List ByteArray) (e : Ending) (w' : World) : Prop := ∃ v, e = .returned v ∧ Strs w' v xs
set_option maxHeartbeats 1000000 in
theorem l05Lines_any (s : ByteArray) (w : World) (hmax : s.size ≤ 1048576) :
    Calls Tryd.prog 24 #[.string s] w fun e w' => StrsRead (lns s) e w' ∧ Below w.heap.size w w' := by
  by_cases h0 : s.size = 0
  · obtain rfl : s = ⟨#[]⟩ := ByteArray.ext (Array.eq_empty_of_size_eq_zero h0)
    go_enter Tryd.func24, Tryd.ntmps24
    go_wp2
    go_ret
    exact ⟨⟨_, rfl, some ⟨w.heap.size, 0, none⟩, 0, rfl, Nat.le_refl _, by unfold maxLen; omega, fun h => by cases h⟩, by (repeat (first | exact Below.refl _ _ | refine Below.setCell ?_ (by first | (simp; done) | (simp; omega) | omega) _ | refine belowN ?_ _ | refine Below.drew ?_ | refine Below.alloc ?_ (by first | (simp; done) | (simp; omega) | omega) _ | refine Below.trans ?_ (Below.mono (by assumption) (by first | (simp; done) | (simp; omega) | omega))))⟩
  · obtain ⟨n, hn⟩ : ∃ n, s.size = n + 1 := ⟨s.size - 1, by omega⟩
    have hne : (s.toList == []) = false := by
      rw [ByteArray.toList_eq]
      cases h : s.data.toList with
      | nil => rw [Lib.size_eq, h] at h0; exact absurd rfl h0
      | cons a l => rfl
    have hpl := pcc_len 10 s
    by_cases h10 : s.data.toList[n]? = some 10
    · have E := lns_end hn h10
      have hS : ∀ w, Calls Tryd.prog 58 #[.string s, .int .u8 10] w fun e w' => ∃ v, e = .returned v ∧ w'.ownsRow w.heap.size 9 1 v ((lns s).length + 1) ((lns s ++ [(⟨#[]⟩ : ByteArray)]).map Value.string) ∧ Below w.heap.size w w' := fun w => by
        have h := l01Split_ten s w hmax
        rw [E, List.length_append] at h
        exact h
      rw [E, List.length_append] at hpl
      simp at hpl
      generalize lns s = xs at *
      have he : ((⟨#[]⟩ : ByteArray).toList == []) = true := by rw [ByteArray.toList_eq]; rfl
      go_enter Tryd.func24, Tryd.ntmps24
      go_wp2_with fail
      refine (hS _).mono ?_
      rintro e w1 ⟨v, rfl, hown, hb1⟩
      obtain ⟨g, cap, rfl, hl, hm⟩ := own_some hown (by omega)
      have c0 := hown.cellAt xs.length (by omega)
      simp at c0
      have HO := Lib.hid hown
      have HM := Lib.hid hm
      unfold maxLen at hm
      clear hown
      go_wp2
      go_ret
      exact ⟨⟨_, rfl, strs_of_own HO.out (by omega) hl HM.out xs rfl (fun i hi => by rw [List.getElem?_append_left hi])⟩, hb1⟩
    · obtain ⟨E, l, x, E2, hx⟩ := lns_last hn h10
      have hS : ∀ w, Calls Tryd.prog 58 #[.string s, .int .u8 10] w fun e w' => ∃ v, e = .returned v ∧ w'.ownsRow w.heap.size 9 1 v (l.length + 1) ((l ++ [x]).map Value.string) ∧ Below w.heap.size w w' := fun w => by
        have h := l01Split_ten s w hmax
        rw [E2, List.length_append] at h
        exact h
      rw [E2, List.length_append] at hpl
      simp at hpl
      rw [← E, E2]
      have he : (x.toList == []) = false := by
        rw [ByteArray.toList_eq]
        cases h : x.data.toList with
        | nil => rw [Lib.size_eq, h] at hx; exact absurd hx (by simp)
        | cons a l => rfl
      go_enter Tryd.func24, Tryd.ntmps24
      go_wp2_with fail
      refine (hS _).mono ?_
      rintro e w1 ⟨v, rfl, hown, hb1⟩
      obtain ⟨g, cap, rfl, hl, hm⟩ := own_some hown (by omega)
      have c0 := hown.cellAt l.length (by omega)
      simp at c0
      have HO := Lib.hid hown
      have HM := Lib.hid hm
      unfold maxLen at hm
      clear hown
      go_wp2
      go_ret
      exact ⟨⟨_, rfl, strs_of_own HO.out (by omega) hl HM.out (l ++ [x]) (by simp) (fun i hi => rfl)⟩, hb1⟩

theorem specSplitLines_any (s : ByteArray) (w : World) (hmax : s.size ≤ 1048576) :
    Calls Tryd.prog 7 #[.string s] w fun e w' => StrsRead (lns s) e w' ∧ Below w.heap.size w w' := by
  go_enter Tryd.func7, Tryd.ntmps7
  go_wp2_with fail
  refine (l05Lines_any s _ hmax).mono ?_
  rintro e w1 ⟨⟨v, rfl, hv⟩, hb⟩
  go_wp2
  go_ret
  exact ⟨⟨_, rfl, hv⟩, hb⟩
def MaxI (w : World) : Prop := ∃ m, w.cell? ⟨0, 0, none⟩ = some (.int .i64 m)
theorem maxI_of {w : World} (h : w.ShapedOpen Tryd.prog) : MaxI w := Tryd.laysM146.s1_3 w h
theorem MaxI.lt {w : World} (h : MaxI w) : 0 < w.heap.size := by
  obtain ⟨m, h⟩ := h
  exact World.block_lt_of_cell? w ⟨_, 0, none⟩ h
theorem MaxI.below {W w : World} (h : MaxI W) (hb : Below W.heap.size W w) : MaxI w := by
  obtain ⟨m, h⟩ := h
  exact ⟨m, cell_below hb h⟩
/-- A call that returns a list of texts in new memory. -/
def StrsPost (W : World) (xs : List ByteArray) (e : Ending) (w' : World) : Prop := ∃ v b, e = .returned v ∧ W.heap.size ≤ b ∧ OwnW w' b v xs
theorem trim_size (s : ByteArray) : (trimN s).size ≤ s.size := by
  have h := Lib.trimSuffix_le s.data.toList [10]
  have e : (trimN s).size = (Lib.trimSuffix s.data.toList [10]).length := by unfold trimN; rw [Lib.size_eq]
  rw [e, Lib.size_eq]
  exact h
set_option maxHeartbeats 1000000 in
theorem implSplitLines_any (s : ByteArray) (w : World) (hmax : s.size ≤ 1048576) (hM : MaxI w) :
    Calls Tryd.prog 8 #[.string s] w fun e w' => StrsPost w (lns s) e w' ∧ Below w.heap.size w w' := by
  obtain ⟨m, hM⟩ := hM
  by_cases h0 : s.size = 0
  · obtain rfl : s = ⟨#[]⟩ := ByteArray.ext (Array.eq_empty_of_size_eq_zero h0)
    go_enter Tryd.func8, Tryd.ntmps8
    go_wp2
    go_ret
    exact ⟨⟨_, w.heap.size, rfl, Nat.le_refl _, .inl ⟨rfl, rfl⟩⟩, by (repeat (first | exact Below.refl _ _ | refine Below.setCell ?_ (by first | (simp; done) | (simp; omega) | omega) _ | refine belowN ?_ _ | refine Below.drew ?_ | refine Below.alloc ?_ (by first | (simp; done) | (simp; omega) | omega) _ | refine Below.trans ?_ (Below.mono (by assumption) (by first | (simp; done) | (simp; omega) | omega))))⟩
  · have hne : (s.toList == []) = false := by
      rw [ByteArray.toList_eq]
      cases h : s.data.toList with
      | nil => rw [Lib.size_eq, h] at h0; exact absurd rfl h0
      | cons a l => rfl
    have hts := trim_size s
    have E : lns s = pcc 10 (trimN s) := by unfold lns; rw [if_neg h0]
    have h1 := Tryd.strings_TrimSuffix s ⟨#[10]⟩ w (by omega)
    have h2 := Tryd.strings_Split (trimN s) ⟨#[10]⟩ m w (by omega) hM (Nat.le_refl _)
    have hl := Lib.splitB_all ⟨#[10]⟩ (Nat.le_refl _) 0 _ (trimN s) rfl
    have hp := split_pcc 10 (trimN s).size (trimN s) (Nat.le_refl _)
    rw [hp] at hl h2
    rw [← hl] at h2
    have hpl := pcc_len 10 (trimN s)
    have e3 : (⟨(Lib.trimSuffix s.data.toList (⟨#[10]⟩ : ByteArray).data.toList).toArray⟩ : ByteArray) = trimN s := rfl
    rw [e3] at h1
    rw [E]
    generalize trimN s = t at *
    generalize pcc 10 t = xs at *
    clear hM hp hl
    go_enter Tryd.func8, Tryd.ntmps8
    go_wp2_with fail
    refine h1.mono ?_
    rintro e w1 ⟨rfl, rfl⟩
    go_wp2_with fail
    refine h2.mono ?_
    rintro e w2 ⟨rfl, rfl⟩
    go_wp2
    go_ret
    obtain ⟨b, hb1, hb2⟩ := OwnW.of_row (xs := xs) (World.ownsRow_lit w1 (xs.map Value.string).toArray xs.length (Nat.le_refl _) (by unfold maxLen; omega) (by simp))
    exact ⟨⟨_, b, rfl, hb1, hb2⟩, by (repeat (first | exact Below.refl _ _ | refine Below.setCell ?_ (by first | (simp; done) | (simp; omega) | omega) _ | refine belowN ?_ _ | refine Below.drew ?_ | refine Below.alloc ?_ (by first | (simp; done) | (simp; omega) | omega) _ | refine Below.trans ?_ (Below.mono (by assumption) (by first | (simp; done) | (simp; omega) | omega))))⟩

end Go.Proofs.YtggpmailkkpdaaaDoor
